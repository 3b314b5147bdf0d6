package tests

import (
	"math"
	"math/big"
	"testing"

	"loop.example/g00481/impl"
)

// Promise 5: rounding never turns the order; below nought it is as above it, the other way round.

var allModes = []int{impl.MdDown, impl.MdUp, impl.MdZero, impl.MdEven, impl.MdAway}

var noModes = []int{-1, -2, 5, 6, math.MinInt, math.MaxInt}

// The floor, or one more: half is -1, 0 or 1, as what is above the floor is less than a half, a half, or more.
func rounded(floor *big.Int, whole bool, half int, above bool, mode int) *big.Int {
	ceiling := new(big.Int).Add(floor, big.NewInt(1))
	further, nearer := ceiling, floor
	if !above {
		further, nearer = floor, ceiling
	}
	even := floor
	if floor.Bit(0) == 1 {
		even = ceiling
	}
	switch {
	case whole || mode == impl.MdDown:
		return floor
	case mode == impl.MdUp:
		return ceiling
	case mode == impl.MdZero:
		return nearer
	case half < 0:
		return floor
	case half > 0:
		return ceiling
	case mode == impl.MdEven:
		return even
	}
	return further
}

func roundedFrac(a *big.Int, b *big.Int, mode int) *big.Int {
	floor, rest := new(big.Int).DivMod(a, b, new(big.Int))
	half := new(big.Int).Lsh(rest, 1).Cmp(b)
	return rounded(floor, rest.Sign() == 0, half, a.Sign() > 0, mode)
}

func roundedRoot(a *big.Int, k int, mode int) *big.Int {
	floor := new(big.Int).Sqrt(new(big.Int).Rsh(a, uint(k)))
	square := new(big.Int).Mul(floor, floor)
	whole := square.Lsh(square, uint(k)).Cmp(a) == 0
	half := new(big.Int).Lsh(floor, 1)
	half.Add(half, big.NewInt(1))
	half.Mul(half, half).Lsh(half, uint(k))
	return rounded(floor, whole, new(big.Int).Lsh(a, 2).Cmp(half), true, mode)
}

func checkFrac(t *testing.T, a *big.Int, b *big.Int) {
	t.Helper()
	for _, mode := range allModes {
		got, ok := impl.RoundFrac(wholeOf(a), wholeOf(b), mode)
		checkWhole(t, "RoundFrac", got, ok, roundedFrac(a, b, mode))
	}
}

func checkAt(t *testing.T, a *big.Int, k int) {
	t.Helper()
	for _, mode := range allModes {
		got, ok := impl.RoundAt(wholeOf(a), k, mode)
		checkWhole(t, "RoundAt", got, ok, roundedFrac(a, near(k, 0), mode))
	}
}

func checkRoundRoot(t *testing.T, a *big.Int, k int) {
	t.Helper()
	for _, mode := range allModes {
		got, ok := impl.RoundRoot(wholeOf(a), k, mode)
		checkWhole(t, "RoundRoot", got, ok, roundedRoot(a, k, mode))
	}
}

func TestRoundNamedFractions(t *testing.T) {
	cases := []struct {
		a, b int
		want [5]int
	}{
		{0, 1, [5]int{0, 0, 0, 0, 0}}, {0, 7, [5]int{0, 0, 0, 0, 0}},
		{6, 3, [5]int{2, 2, 2, 2, 2}}, {-6, 3, [5]int{-2, -2, -2, -2, -2}},
		{1, 2, [5]int{0, 1, 0, 0, 1}}, {-1, 2, [5]int{-1, 0, 0, 0, -1}},
		{3, 2, [5]int{1, 2, 1, 2, 2}}, {-3, 2, [5]int{-2, -1, -1, -2, -2}},
		{5, 2, [5]int{2, 3, 2, 2, 3}}, {-5, 2, [5]int{-3, -2, -2, -2, -3}},
		{1, 3, [5]int{0, 1, 0, 0, 0}}, {-1, 3, [5]int{-1, 0, 0, 0, 0}},
		{2, 3, [5]int{0, 1, 0, 1, 1}}, {-2, 3, [5]int{-1, 0, 0, -1, -1}},
		{7, 3, [5]int{2, 3, 2, 2, 2}}, {-7, 3, [5]int{-3, -2, -2, -2, -2}},
		{8, 3, [5]int{2, 3, 2, 3, 3}}, {-8, 3, [5]int{-3, -2, -2, -3, -3}},
		{49, 100, [5]int{0, 1, 0, 0, 0}}, {50, 100, [5]int{0, 1, 0, 0, 1}}, {51, 100, [5]int{0, 1, 0, 1, 1}},
		{-149, 100, [5]int{-2, -1, -1, -1, -1}}, {-150, 100, [5]int{-2, -1, -1, -2, -2}}, {-151, 100, [5]int{-2, -1, -1, -2, -2}},
		{-249, 100, [5]int{-3, -2, -2, -2, -2}}, {-250, 100, [5]int{-3, -2, -2, -2, -3}}, {-251, 100, [5]int{-3, -2, -2, -3, -3}},
	}
	for _, c := range cases {
		for _, mode := range allModes {
			got, ok := impl.RoundFrac(impl.WholeOf(c.a), impl.WholeOf(c.b), mode)
			if n, fine := impl.WholeInt(got); !ok || !fine || n != c.want[mode] {
				t.Errorf("RoundFrac(%d, %d, %d) = %v, %v, want %d", c.a, c.b, mode, got, ok, c.want[mode])
			}
		}
	}
}

func TestRoundSmallFractions(t *testing.T) {
	for a := int64(-60); a <= 60; a++ {
		for b := int64(1); b <= 24; b++ {
			checkFrac(t, big.NewInt(a), big.NewInt(b))
		}
		for k := range 8 {
			checkAt(t, big.NewInt(a), k)
		}
	}
}

func TestRoundGreatFractions(t *testing.T) {
	for _, a := range goodWholes() {
		for _, b := range goodLists() {
			if len(b) > 0 {
				checkFrac(t, bigOfWhole(a), bigOf(b))
			}
		}
		for _, k := range []int{0, 1, 2, 23, 24, 25, 48, 100, 575, 576, 577, 599, 600} {
			checkAt(t, bigOfWhole(a), k)
		}
	}
}

// Just at a half and just beside it, above and below nought, about an even and an odd floor.
func TestRoundHalves(t *testing.T) {
	m := &mixer{state: 2463534242}
	for range 60 {
		b := bigOf(m.list(1 + m.below(20)))
		b.Lsh(b, 1)
		floor := bigOf(m.list(1 + m.below(20)))
		for d := int64(-1); d <= 1; d++ {
			for up := range int64(2) {
				a := new(big.Int).Add(floor, big.NewInt(up))
				a.Mul(a, b).Add(a, new(big.Int).Rsh(b, 1)).Add(a, big.NewInt(d))
				checkFrac(t, a, b)
				checkFrac(t, a.Neg(a), b)
			}
		}
	}
	for _, k := range []int{1, 2, 23, 24, 25, 47, 48, 49, 300, 599, 600} {
		for floor := int64(-4); floor <= 4; floor++ {
			for d := int64(-1); d <= 1; d++ {
				a := new(big.Int).Lsh(big.NewInt(2*floor+1), uint(k-1))
				checkAt(t, a.Add(a, big.NewInt(d)), k)
			}
		}
	}
}

func TestRoundSmallRoots(t *testing.T) {
	for a := range int64(600) {
		for k := range 9 {
			checkRoundRoot(t, big.NewInt(a), k)
		}
	}
}

func TestRoundGreatRoots(t *testing.T) {
	for _, a := range goodLists() {
		for _, k := range []int{0, 1, 2, 3, 23, 24, 25, 26, 47, 48, 300, 576, 577, 599, 600} {
			checkRoundRoot(t, bigOf(a), k)
		}
	}
}

// The roots of squares and of halves' squares, and of what is just beside them.
func TestRoundRootsAboutSquares(t *testing.T) {
	m := &mixer{state: 123456789}
	for range 60 {
		root := bigOf(m.list(1 + m.below(11)))
		for _, k := range []int{0, 2, 4, 24, 26, 600} {
			for up := range int64(4) {
				half := new(big.Int).Add(root, big.NewInt(up))
				square := new(big.Int).Mul(half, half)
				square.Lsh(square, uint(k)).Rsh(square, 2)
				for d := int64(-1); d <= 1; d++ {
					a := new(big.Int).Add(square, big.NewInt(d))
					if fitsWhole(a) {
						checkRoundRoot(t, a, k)
					}
				}
			}
		}
	}
}

func TestRoundNamedRoots(t *testing.T) {
	cases := []struct {
		a, k int
		want [5]int
	}{
		{0, 0, [5]int{0, 0, 0, 0, 0}}, {0, 600, [5]int{0, 0, 0, 0, 0}},
		{1, 0, [5]int{1, 1, 1, 1, 1}}, {2, 0, [5]int{1, 2, 1, 1, 1}}, {3, 0, [5]int{1, 2, 1, 2, 2}}, {4, 0, [5]int{2, 2, 2, 2, 2}},
		{1, 2, [5]int{0, 1, 0, 0, 1}}, {9, 2, [5]int{1, 2, 1, 2, 2}}, {25, 2, [5]int{2, 3, 2, 2, 3}}, {49, 2, [5]int{3, 4, 3, 4, 4}},
		{8, 2, [5]int{1, 2, 1, 1, 1}}, {10, 2, [5]int{1, 2, 1, 2, 2}}, {1, 600, [5]int{0, 1, 0, 0, 0}},
		{15, 0, [5]int{3, 4, 3, 4, 4}}, {16, 0, [5]int{4, 4, 4, 4, 4}}, {17, 0, [5]int{4, 5, 4, 4, 4}},
	}
	for _, c := range cases {
		for _, mode := range allModes {
			got, ok := impl.RoundRoot(impl.WholeOf(c.a), c.k, mode)
			if n, fine := impl.WholeInt(got); !ok || !fine || n != c.want[mode] {
				t.Errorf("RoundRoot(%d, %d, %d) = %v, %v, want %d", c.a, c.k, mode, got, ok, c.want[mode])
			}
		}
	}
}

func TestRoundNeverTurnsTheOrder(t *testing.T) {
	for _, mode := range allModes {
		for b := 1; b <= 12; b++ {
			last := impl.WholeOf(-1000)
			for a := -100; a <= 100; a++ {
				got, _ := impl.RoundFrac(impl.WholeOf(a), impl.WholeOf(b), mode)
				if impl.WholeCmp(last, got) > 0 {
					t.Fatalf("RoundFrac(%d, %d, %d) is below the one ahead", a, b, mode)
				}
				last = got
			}
		}
		for k := range 6 {
			lastAt, lastRoot := impl.WholeOf(-1000), impl.WholeOf(0)
			for a := -100; a <= 100; a++ {
				at, _ := impl.RoundAt(impl.WholeOf(a), k, mode)
				if impl.WholeCmp(lastAt, at) > 0 {
					t.Fatalf("RoundAt(%d, %d, %d) is below the one ahead", a, k, mode)
				}
				lastAt = at
				root, ok := impl.RoundRoot(impl.WholeOf(a), k, mode)
				if ok && impl.WholeCmp(lastRoot, root) > 0 {
					t.Fatalf("RoundRoot(%d, %d, %d) is below the one ahead", a, k, mode)
				}
				if ok {
					lastRoot = root
				}
			}
		}
	}
}

func TestRoundBelowNoughtIsTheOtherWayRound(t *testing.T) {
	for _, a := range goodWholes() {
		for _, mode := range allModes {
			for _, b := range []int{1, 2, 3, 4, 10, 1 << 40} {
				x, ok := impl.RoundFrac(a, impl.WholeOf(b), mode)
				y, fine := impl.RoundFrac(impl.WholeNeg(a), impl.WholeOf(b), impl.Turned(mode))
				if !ok || !fine || !sameWhole(impl.WholeNeg(x), y) {
					t.Fatalf("RoundFrac of %v by %d, mode %d, is not turned: %v, %v", a, b, mode, x, y)
				}
			}
			for _, k := range []int{0, 1, 2, 24, 600} {
				x, ok := impl.RoundAt(a, k, mode)
				y, fine := impl.RoundAt(impl.WholeNeg(a), k, impl.Turned(mode))
				if !ok || !fine || !sameWhole(impl.WholeNeg(x), y) {
					t.Fatalf("RoundAt of %v at %d, mode %d, is not turned: %v, %v", a, k, mode, x, y)
				}
			}
		}
	}
}

func TestTurnedOfEachMode(t *testing.T) {
	if impl.MdDown != 0 || impl.MdUp != 1 || impl.MdZero != 2 || impl.MdEven != 3 || impl.MdAway != 4 {
		t.Error("modes are numbered otherwise")
	}
	for mode, want := range []int{1, 0, 2, 3, 4} {
		if got := impl.Turned(mode); got != want || impl.Turned(got) != mode {
			t.Errorf("Turned(%d) = %d", mode, got)
		}
	}
	for _, mode := range noModes {
		if got := impl.Turned(mode); got != -1 {
			t.Errorf("Turned(%d) = %d, want -1", mode, got)
		}
	}
}

func TestRoundRefuses(t *testing.T) {
	good := impl.WholeOf(5)
	refused := func(name string, a impl.Whole, b impl.Whole, k int, mode int) {
		t.Helper()
		got, ok := impl.RoundFrac(a, b, mode)
		refusedWhole(t, "RoundFrac: "+name, got, ok)
		got, ok = impl.RoundAt(a, k, mode)
		refusedWhole(t, "RoundAt: "+name, got, ok)
		got, ok = impl.RoundRoot(a, k, mode)
		refusedWhole(t, "RoundRoot: "+name, got, ok)
	}
	for _, mode := range noModes {
		refused("no such mode", good, good, 1, mode)
		refused("no such mode of 0", impl.Whole{}, good, 0, mode)
	}
	for _, mode := range allModes {
		for _, k := range []int{-1, 601, math.MinInt, math.MaxInt} {
			refused("no such k, by 0", good, impl.Whole{}, k, mode)
			refused("no such k of 0, by -1", impl.Whole{}, impl.WholeOf(-1), k, mode)
		}
		for _, bad := range badWholes() {
			refused("what is no number", bad, good, 1, mode)
			got, ok := impl.RoundFrac(good, bad, mode)
			refusedWhole(t, "RoundFrac by what is no number", got, ok)
		}
		for _, n := range []int{-1, -4, math.MinInt} {
			got, ok := impl.RoundFrac(good, impl.WholeOf(n), mode)
			refusedWhole(t, "RoundFrac by one below 0", got, ok)
			got, ok = impl.RoundRoot(impl.WholeOf(n), 2, mode)
			refusedWhole(t, "RoundRoot of one below 0", got, ok)
		}
	}
}

// Promise 29: every function answers at any arguments, and writes into none.

func TestRoundWritesIntoNothingAndSharesNothing(t *testing.T) {
	defer mustNotPanic(t)
	wholes := append(goodWholes(), badWholes()...)
	for _, a := range wholes {
		x, first := layWhole(a)
		for _, mode := range append(allModes, noModes...) {
			for _, k := range []int{math.MinInt, -1, 0, 1, 24, 600, 601, math.MaxInt} {
				at, _ := impl.RoundAt(x, k, mode)
				checkApart(t, "RoundAt", []laid{first}, at.Mag)
				root, _ := impl.RoundRoot(x, k, mode)
				checkApart(t, "RoundRoot", []laid{first}, root.Mag)
			}
		}
	}
	for i, a := range wholes {
		x, first := layWhole(shortened(a))
		for j, b := range wholes {
			y, second := layWhole(shortened(b))
			frac, _ := impl.RoundFrac(x, y, (i+j)%7-1)
			checkApart(t, "RoundFrac", []laid{first, second}, frac.Mag)
		}
		frac, _ := impl.RoundFrac(x, x, impl.MdEven)
		checkApart(t, "RoundFrac by itself", []laid{first}, frac.Mag)
	}
}
