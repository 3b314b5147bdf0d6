package tests

import (
	"math"
	"math/big"
	"slices"
	"sync"
	"testing"

	"loop.example/g00481/impl"
)

// Promise 13: what is known to more bits meets what is known to less.

var constantPlaces = []int{1, 2, 3, 7, 8, 9, 16, 23, 24, 25, 40, 100, 233, 316, 447, 448, 449, 463, 464}

// No p of this chapter, and no i or n.
var (
	noConstPlaces = []int{math.MinInt, math.MinInt + 1, -464, -16, -1, 0, 465, 466, 480, 481, 1 << 32, 1<<32 + 5, math.MaxInt - 1, math.MaxInt}
	noTurns       = []int{math.MinInt, math.MinInt + 1, -200, -2, -1, 201, 202, 480, 1 << 32, 1<<32 + 5, math.MaxInt - 1, math.MaxInt}
)

func sumPair(n int, p int) pair {
	sum, count := slowSum(big.NewInt(int64(n)), p, true)
	return onePair(sum).wide(int64(count + 1))
}

// So many angles of 1 by 5 less so many of 1 by 239.
func anglesPair(fives int, others int, p int) pair {
	return sumPair(5, p+16).times(fives).minus(sumPair(239, p+16).times(others)).moved(p+16, p)
}

func piPair(p int) pair { return anglesPair(16, 4, p) }

func halfPiPair(p int) pair { return anglesPair(8, 2, p) }

func ln2Pair(p int) pair {
	sum, count := slowSum(big.NewInt(3), p+16, false)
	return pair{sum, new(big.Int).Add(sum, big.NewInt(int64(count+2)))}.times(2).moved(p+16, p)
}

func anglePair(i int, p int) pair {
	if i == 0 {
		return anglesPair(4, 1, p)
	}
	sum, count := slowSum(near(i, 0), p+16, true)
	return onePair(sum).wide(int64(count+1)).moved(p+16, p)
}

func gainSquarePair(n int, p int) pair {
	v := onePair(near(p, 0))
	for i := range n {
		v = v.plus(v.moved(2*i, 0))
	}
	return v
}

func trueGainSquare(n int) *big.Float {
	product := exactly(1)
	for i := range n {
		product = productOf(product, sumOf(exactly(1), scaled(exactly(1), -2*i)))
	}
	return product
}

func TestConstantsAtEachPlace(t *testing.T) {
	t.Parallel()
	if impl.MaxConst != 464 {
		t.Error("MaxConst", impl.MaxConst)
	}
	for p := 1; p <= 464; p++ {
		pi, ok := impl.Pi(p)
		checkPair(t, "Pi", pi, ok, piPair(p))
		checkTrue(t, "Pi", pi, p, truePi(), 2)
		half, ok := impl.HalfPi(p)
		checkPair(t, "HalfPi", half, ok, halfPiPair(p))
		checkTrue(t, "HalfPi", half, p, scaled(truePi(), -1), 2)
		ln, ok := impl.Ln2(p)
		checkPair(t, "Ln2", ln, ok, ln2Pair(p))
		checkTrue(t, "Ln2", ln, p, trueLn2(), 2)
	}
}

func TestConstantsHoldTheTables(t *testing.T) {
	for p := 1; p <= 320; p++ {
		pi, _ := impl.Pi(p)
		ln, _ := impl.Ln2(p)
		for text, v := range map[string]impl.Iv{tablePi: pi, tableLn2: ln} {
			value, _ := new(big.Rat).SetString(text)
			lo, hi := endsOf(v)
			if fraction(lo, near(p, 0)).Cmp(value) > 0 || fraction(hi, near(p, 0)).Cmp(value) < 0 {
				t.Errorf("%s at %d is not held", text[:8], p)
			}
		}
	}
}

// By hand: at 17 bits the parts of 5 are 26214, 1048, 41 and 1, those of 239 are 548; those of 3 are 43690, 4854, 539, 59, 6.
func TestConstantsNamedOnes(t *testing.T) {
	cases := []struct {
		name   string
		got    func() (impl.Iv, bool)
		lo, hi int
	}{
		// 26214 - 349 + 8 = 25873, off by 5; 548, off by 2: 16 and 4 times, by 65536: 6.28...
		{"Pi(1)", func() (impl.Iv, bool) { return impl.Pi(1) }, 6, 7},
		{"HalfPi(1)", func() (impl.Iv, bool) { return impl.HalfPi(1) }, 3, 4},
		{"AngleOf(0, 1)", func() (impl.Iv, bool) { return impl.AngleOf(0, 1) }, 1, 2},
		// 43690 + 1618 + 107 + 8 = 45423 and 5 parts: twice that, by 65536: 1.386...
		{"Ln2(1)", func() (impl.Iv, bool) { return impl.Ln2(1) }, 1, 2},
		{"no step", func() (impl.Iv, bool) { return impl.GainSquare(0, 5) }, 32, 32},
		{"one step", func() (impl.Iv, bool) { return impl.GainSquare(1, 5) }, 64, 64},
		{"two steps", func() (impl.Iv, bool) { return impl.GainSquare(2, 4) }, 40, 40},
		{"40 and 2.5", func() (impl.Iv, bool) { return impl.GainSquare(3, 4) }, 42, 43},
		{"42 and 0.6, 43 and 0.7", func() (impl.Iv, bool) { return impl.GainSquare(4, 4) }, 42, 44},
		{"from the fourth step on Hi rises by one each", func() (impl.Iv, bool) { return impl.GainSquare(200, 4) }, 42, 240},
		{"no step", func() (impl.Iv, bool) { return impl.Gain(0, 5) }, 32, 32},
		{"the root of 2", func() (impl.Iv, bool) { return impl.Gain(1, 5) }, 45, 46},
		{"the root of 2.5", func() (impl.Iv, bool) { return impl.Gain(2, 5) }, 50, 51},
	}
	for _, c := range cases {
		got, ok := c.got()
		if !ok || !sameIv(got, smallIv(c.lo, c.hi)) {
			t.Errorf("%s: %v, %v, want from %d to %d", c.name, got, ok, c.lo, c.hi)
		}
	}
}

func TestAnglesOfEachPower(t *testing.T) {
	for i := 0; i <= 200; i++ {
		value := trueAtan(scaled(exactly(1), -i))
		for _, p := range append(constantPlaces, i+1, 2*i+1) {
			got, ok := impl.AngleOf(i, p)
			checkPair(t, "AngleOf", got, ok, anglePair(i, p))
			checkTrue(t, "AngleOf", got, p, value, 2)
		}
	}
}

func TestGainsOfEachCount(t *testing.T) {
	t.Parallel()
	for n := 0; n <= 200; n++ {
		value := trueGainSquare(n)
		for _, p := range constantPlaces {
			square, ok := impl.GainSquare(n, p)
			checkPair(t, "GainSquare", square, ok, gainSquarePair(n, p))
			checkTrue(t, "GainSquare", square, p, value, int64(3*n))
			gain, ok := impl.Gain(n, p)
			checkPair(t, "Gain", gain, ok, gainSquarePair(n, p+16).root(p+16).moved(p+16, p))
			checkTrue(t, "Gain", gain, p, rootOf(value), 2)
		}
	}
}

// All that this chapter tells at p, by a number from 0 to 200.
func constantsOf(n int, p int) map[string]impl.Iv {
	pi, _ := impl.Pi(p)
	half, _ := impl.HalfPi(p)
	ln, _ := impl.Ln2(p)
	angle, _ := impl.AngleOf(n, p)
	gain, _ := impl.Gain(n, p)
	return map[string]impl.Iv{"Pi": pi, "HalfPi": half, "Ln2": ln, "AngleOf": angle, "Gain": gain}
}

func TestMoreBitsMeetLess(t *testing.T) {
	t.Parallel()
	for _, n := range []int{0, 1, 2, 5, 40, 200} {
		known := map[int]map[string]impl.Iv{}
		for _, p := range constantPlaces {
			known[p] = constantsOf(n, p)
		}
		for i, q := range constantPlaces {
			for _, p := range constantPlaces[:i] {
				for name, more := range known[q] {
					checkMeets(t, name, more, q, known[p][name], p)
				}
				more, _ := impl.GainSquare(n, q)
				less, _ := impl.GainSquare(n, p)
				down, _ := impl.IvMove(more, q, p)
				if !impl.IvMeet(down, less) {
					t.Errorf("GainSquare(%d) at %d and at %d", n, q, p)
				}
			}
		}
	}
}

func TestConstantsRefuse(t *testing.T) {
	refused := func(name string, got impl.Iv, ok bool) {
		t.Helper()
		refusedIv(t, name, got, ok)
	}
	for _, p := range noConstPlaces {
		for _, do := range []func(int) (impl.Iv, bool){impl.Pi, impl.HalfPi, impl.Ln2} {
			got, ok := do(p)
			refused("a constant at no place", got, ok)
		}
		for _, do := range []func(int, int) (impl.Iv, bool){impl.AngleOf, impl.GainSquare, impl.Gain} {
			for _, n := range []int{0, 1, 200, -1, 201} {
				got, ok := do(n, p)
				refused("a constant at no place", got, ok)
			}
		}
	}
	for _, n := range noTurns {
		for _, p := range []int{1, 100, 464} {
			for _, do := range []func(int, int) (impl.Iv, bool){impl.AngleOf, impl.GainSquare, impl.Gain} {
				got, ok := do(n, p)
				refused("a constant of no number", got, ok)
			}
		}
	}
}

func TestConstantsAtTheEdges(t *testing.T) {
	for _, p := range []int{1, 464} {
		for _, n := range []int{0, 1, 200} {
			for name, v := range constantsOf(n, p) {
				if !impl.IvOk(v) || impl.WholeCmp(v.Hi, impl.WholeOf(0)) <= 0 {
					t.Errorf("%s of %d at %d is %v", name, n, p, v)
				}
			}
			if v, ok := impl.GainSquare(n, p); !ok || impl.WholeCmp(v.Lo, impl.WholeOf(0)) <= 0 {
				t.Errorf("GainSquare of %d at %d is %v", n, p, v)
			}
		}
	}
}

// Promise 29: every function answers at any arguments; what was answered once is answered again.

func TestConstantsAnswerAtAnything(t *testing.T) {
	defer mustNotPanic(t)
	for _, p := range slices.Concat(noConstPlaces, []int{1, 24, 448, 464}) {
		for _, do := range []func(int) (impl.Iv, bool){impl.Pi, impl.HalfPi, impl.Ln2} {
			first, _ := do(p)
			second, _ := do(p)
			checkApart(t, "a constant", nil, endLists(first, second)...)
		}
		for _, n := range slices.Concat(noTurns, []int{0, 1, 200}) {
			for _, do := range []func(int, int) (impl.Iv, bool){impl.AngleOf, impl.GainSquare, impl.Gain} {
				first, _ := do(n, p)
				second, _ := do(n, p)
				checkApart(t, "a constant of a number", nil, endLists(first, second)...)
			}
		}
	}
}

// What was handed out is written over; it is asked for again, in another order and by many at once.
func TestConstantsAreAnsweredAgain(t *testing.T) {
	spoil := func(v impl.Iv) {
		for _, list := range endLists(v) {
			for i := range list {
				list[i] = 7
			}
		}
	}
	want := map[int]map[string]string{}
	texts := func(n int, p int) map[string]string {
		out := map[string]string{}
		for name, v := range constantsOf(n, p) {
			out[name] = impl.WholeText(v.Lo) + " " + impl.WholeText(v.Hi)
			spoil(v)
		}
		return out
	}
	for _, p := range constantPlaces {
		want[p] = texts(3, p)
	}
	again := func(places []int) {
		for _, p := range places {
			for name, text := range texts(3, p) {
				if text != want[p][name] {
					t.Errorf("%s at %d is %s, and was %s", name, p, text, want[p][name])
				}
			}
		}
	}
	backwards := slices.Clone(constantPlaces)
	slices.Reverse(backwards)
	again(backwards)
	var all sync.WaitGroup
	for i := range 8 {
		all.Go(func() {
			if i%2 == 0 {
				again(constantPlaces)
			} else {
				again(backwards)
			}
		})
	}
	all.Wait()
}
