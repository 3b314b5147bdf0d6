package tests

import (
	"math"
	"math/big"
	"slices"
	"testing"
	"unsafe"

	"loop.example/g00481/impl"
)

// What the tests of great numbers have in common: lists that are great numbers, lists that are none, and numbers to hold them against.

const (
	base      = 1 << 24
	mostLimbs = 48
	mostBits  = 24 * mostLimbs
)

func bigOf(a []int) *big.Int {
	n := new(big.Int)
	for i := len(a) - 1; i >= 0; i-- {
		n.Lsh(n, 24).Add(n, big.NewInt(int64(a[i])))
	}
	return n
}

// The limbs of a number from 0 on, however many they are.
func listOf(n *big.Int) []int {
	var out []int
	rest := new(big.Int).Set(n)
	limb := new(big.Int)
	for rest.Sign() > 0 {
		rest.QuoRem(rest, big.NewInt(base), limb)
		out = append(out, int(limb.Int64()))
	}
	return out
}

func fits(n *big.Int) bool { return n.Sign() >= 0 && n.BitLen() <= mostBits }

// 2^k and d together.
func near(k int, d int64) *big.Int {
	n := new(big.Int).Lsh(big.NewInt(1), uint(k))
	return n.Add(n, big.NewInt(d))
}

// The same numbers at every run.
type mixer struct{ state uint64 }

func (m *mixer) next() uint64 {
	m.state ^= m.state << 13
	m.state ^= m.state >> 7
	m.state ^= m.state << 17
	return m.state
}

func (m *mixer) below(n int) int { return int(m.next()>>1) % n }

// A list of so many limbs; many of them are all 0 or all 1, where carries run far.
func (m *mixer) list(limbs int) []int {
	out := make([]int, limbs)
	for i := range out {
		switch m.below(4) {
		case 0:
			out[i] = 0
		case 1:
			out[i] = base - 1
		default:
			out[i] = m.below(base)
		}
	}
	if limbs > 0 && out[limbs-1] == 0 {
		out[limbs-1] = 1 + m.below(base-1)
	}
	return out
}

// Great numbers: about the edges, and between.
func goodLists() [][]int {
	out := [][]int{nil, {1}, {2}, {3}, {10}, {base - 1}, {0, 1}, {1, 1}, {base - 1, base - 1}}
	for _, k := range []int{23, 24, 47, 62, 63, 64, 100, 575, 576, 577, 1127, 1128, 1150, 1151} {
		out = append(out, listOf(near(k, -1)), listOf(near(k, 0)), listOf(near(k, 1)))
	}
	out = append(out, listOf(near(mostBits, -1)), listOf(near(mostBits, -2)))
	m := &mixer{state: 88172645463325252}
	for _, limbs := range []int{1, 1, 2, 2, 3, 4, 7, 12, 23, 24, 24, 25, 40, 47, 48, 48} {
		out = append(out, m.list(limbs))
	}
	return out
}

// Lists that are no great number.
func badLists() [][]int {
	long := make([]int, mostLimbs+1)
	long[mostLimbs] = 1
	longNoughts := make([]int, mostLimbs+1)
	lastNought := make([]int, mostLimbs)
	lastNought[0] = 5
	return [][]int{
		{0}, {0, 0}, {1, 0}, {5, 6, 0}, lastNought,
		{-1}, {1, -1}, {-1, 1}, {math.MinInt}, {7, math.MinInt, 7},
		{base}, {base, 1}, {1, base}, {base + 1}, {math.MaxInt}, {3, math.MaxInt, 3}, {1 << 32}, {1<<32 + 1, 1},
		long, longNoughts, slices.Repeat([]int{1}, 100000), slices.Repeat([]int{base - 1}, mostLimbs+1),
	}
}

// An argument with marked room behind it: what is written there is seen.
type laid struct {
	list   []int
	before []int
}

func lay(a []int) laid {
	all := append(slices.Clone(a), -77, -78, -79, -80)
	return laid{list: all[:len(a)], before: slices.Clone(all)}
}

func (l laid) untouched() bool {
	return slices.Equal(l.list[:cap(l.list)][:len(l.before)], l.before)
}

func shareMemory(a []int, b []int) bool {
	if cap(a) == 0 || cap(b) == 0 {
		return false
	}
	fromA, fromB := uintptr(unsafe.Pointer(unsafe.SliceData(a))), uintptr(unsafe.Pointer(unsafe.SliceData(b)))
	return fromA < fromB+uintptr(cap(b))*8 && fromB < fromA+uintptr(cap(a))*8
}

// Nothing was written into the arguments, and no two lists of all these share memory.
func checkApart(t *testing.T, name string, args []laid, answers ...[]int) {
	t.Helper()
	for _, arg := range args {
		if !arg.untouched() {
			t.Fatalf("%s wrote into an argument, or behind it: %v", name, arg.before)
		}
		for _, answer := range answers {
			if shareMemory(arg.list, answer) {
				t.Fatalf("%s: an answer shares memory with %v", name, arg.list)
			}
		}
	}
	for i, answer := range answers {
		for _, other := range answers[:i] {
			if shareMemory(answer, other) {
				t.Fatalf("%s: two lists of one answer share memory", name)
			}
		}
	}
}

// What is answered with true is the great number want; with false it is nothing, and want is none that fits.
func checkNat(t *testing.T, name string, got []int, ok bool, want *big.Int) {
	t.Helper()
	if !fits(want) {
		if ok || len(got) != 0 {
			t.Fatalf("%s = %v, %v, want nothing and false", name, got, ok)
		}
		return
	}
	if !ok || !impl.NatOk(got) || !slices.Equal(got, listOf(want)) {
		t.Fatalf("%s = %v, %v, want %v", name, got, ok, listOf(want))
	}
}

func mustNotPanic(t *testing.T) {
	t.Helper()
	if r := recover(); r != nil {
		t.Fatal("panic:", r)
	}
}
