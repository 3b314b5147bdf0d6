package tests

import (
	"math"
	"math/big"
	"slices"
	"strings"
	"testing"

	"loop.example/g00481/impl"
)

// Promise 19: what is decided is near; decided of more it is decided alike of less.

// No p and no f of this chapter.
var (
	noDecidePlaces = []int{math.MinInt, math.MinInt + 1, -480, -1, 0, 481, 482, 1 << 32, 1<<32 + 60, math.MaxInt - 1, math.MaxInt}
	noDecidePoints = []int{math.MinInt, math.MinInt + 1, -60, -2, -1, 61, 62, 1 << 32, 1<<32 + 5, math.MaxInt - 1, math.MaxInt}
)

// What is rounded of 2 Lo + 1 and of 2 Hi - 1.
func decided(lo *big.Int, hi *big.Int, p int, f int, mode int) (*big.Int, bool) {
	if lo.Cmp(hi) >= 0 || p < f {
		return nil, false
	}
	first := new(big.Int).Lsh(lo, 1)
	last := new(big.Int).Lsh(hi, 1)
	step := near(p+1-f, 0)
	low := roundedFrac(first.Add(first, big.NewInt(1)), step, mode)
	high := roundedFrac(last.Sub(last, big.NewInt(1)), step, mode)
	return low, low.Cmp(high) == 0
}

func checkDecide(t *testing.T, v impl.Iv, p int, f int) {
	t.Helper()
	lo, hi := endsOf(v)
	for _, mode := range allModes {
		want, fine := decided(lo, hi, p, f, mode)
		got, ok := impl.Decide(v, p, f, mode)
		if !fine {
			refusedWhole(t, "Decide", got, ok)
			continue
		}
		checkWhole(t, "Decide", got, ok, want)
		checkNearIt(t, got, v, p, f)
	}
}

func checkNearIt(t *testing.T, one impl.Whole, v impl.Iv, p int, f int) {
	t.Helper()
	below, above := impl.Near(v, p, f)
	if impl.WholeCmp(below, one) > 0 || impl.WholeCmp(one, above) > 0 {
		t.Fatalf("%v at %d is decided to %v, which is not near", v, p, one)
	}
}

func checkNear(t *testing.T, v impl.Iv, p int, f int) {
	t.Helper()
	lo, hi := endsOf(v)
	below, above := impl.Near(v, p, f)
	checkWhole(t, "Near's floor", below, true, floorOf(lo, near(p-f, 0)))
	checkWhole(t, "Near's ceiling", above, true, ceilingOf(hi, near(p-f, 0)))
}

// What each mode tells, down, up, zero, even and away; a point where it tells nothing.
func TestDecideNamedOnes(t *testing.T) {
	cases := []struct {
		lo, hi, p, f int
		want         string
	}{
		// Sixteenths: about 2.5, whose even neighbour is below it, and about 3.5, whose even one is above.
		{40, 42, 4, 0, "2 3 2 3 3"}, {38, 40, 4, 0, "2 3 2 2 2"}, {39, 41, 4, 0, "2 3 2 . ."}, {39, 40, 4, 0, "2 3 2 2 2"}, {40, 41, 4, 0, "2 3 2 3 3"},
		{56, 57, 4, 0, "3 4 3 4 4"}, {55, 56, 4, 0, "3 4 3 3 3"}, {55, 57, 4, 0, "3 4 3 . ."},
		{-42, -40, 4, 0, "-3 -2 -2 -3 -3"}, {-40, -38, 4, 0, "-3 -2 -2 -2 -2"}, {-41, -39, 4, 0, "-3 -2 -2 . ."}, {-41, -40, 4, 0, "-3 -2 -2 -3 -3"}, {-40, -39, 4, 0, "-3 -2 -2 -2 -2"},
		// About whole numbers, and all the way from one to the next.
		{48, 49, 4, 0, "3 4 3 3 3"}, {47, 48, 4, 0, "2 3 2 3 3"}, {47, 49, 4, 0, ". . . 3 3"}, {-49, -47, 4, 0, ". . . -3 -3"}, {-48, -47, 4, 0, "-3 -2 -2 -3 -3"}, {-49, -48, 4, 0, "-4 -3 -3 -3 -3"},
		{32, 48, 4, 0, "2 3 2 . ."}, {31, 48, 4, 0, ". . . . ."}, {33, 48, 4, 0, "2 3 2 . ."}, {31, 49, 4, 0, ". . . . ."}, {40, 56, 4, 0, ". . . 3 3"}, {39, 56, 4, 0, ". . . . ."}, {40, 57, 4, 0, ". . . . ."},
		// About nought.
		{-1, 1, 4, 0, ". . 0 0 0"}, {-1, 0, 4, 0, "-1 0 0 0 0"}, {0, 1, 4, 0, "0 1 0 0 0"}, {-16, 16, 4, 0, ". . 0 . ."}, {-17, 16, 4, 0, ". . . . ."}, {-16, 17, 4, 0, ". . . . ."}, {-8, 8, 4, 0, ". . 0 0 0"}, {-9, 8, 4, 0, ". . 0 . ."}, {-8, 9, 4, 0, ". . 0 . ."}, {-16, 0, 4, 0, "-1 0 0 . ."},
		// With bits behind the point.
		{5, 7, 2, 1, ". . . 3 3"}, {6, 7, 2, 1, "3 4 3 3 3"}, {5, 6, 2, 1, "2 3 2 3 3"}, {40, 42, 64, 60, "2 3 2 3 3"}, {-41, -39, 63, 59, "-3 -2 -2 . ."},
		// One place and all of them.
		{0, 1, 1, 0, "0 1 0 0 0"}, {1, 2, 1, 0, "0 1 0 1 1"}, {0, 1, 480, 0, "0 1 0 0 0"}, {-1, 0, 480, 60, "-1 0 0 0 0"}, {-1, 1, 480, 60, ". . 0 0 0"},
		// p that is f: half a step from an end is a half.
		{2, 3, 4, 4, "2 3 2 2 3"}, {3, 4, 4, 4, "3 4 3 4 4"}, {-3, -2, 60, 60, "-3 -2 -2 -2 -3"}, {-4, -3, 1, 1, "-4 -3 -3 -4 -4"}, {1, 3, 4, 4, ". . . 2 ."}, {2, 4, 4, 4, ". . . . ."}, {-1, 1, 4, 4, ". . 0 0 ."}, {0, 1, 1, 1, "0 1 0 0 1"},
		// One below f, and nothing between.
		{40, 42, 3, 4, ". . . . ."}, {0, 1, 59, 60, ". . . . ."}, {0, 1, 1, 2, ". . . . ."}, {40, 40, 4, 0, ". . . . ."}, {0, 0, 4, 0, ". . . . ."}, {-7, -7, 480, 60, ". . . . ."}, {41, 41, 4, 4, ". . . . ."},
	}
	for _, c := range cases {
		var told []string
		for _, mode := range allModes {
			one, ok := impl.Decide(smallIv(c.lo, c.hi), c.p, c.f, mode)
			if !ok {
				refusedWhole(t, "Decide", one, ok)
				told = append(told, ".")
				continue
			}
			told = append(told, impl.WholeText(one))
		}
		if got := strings.Join(told, " "); got != c.want {
			t.Errorf("from %d to %d at %d, with %d behind: %s, want %s", c.lo, c.hi, c.p, c.f, got, c.want)
		}
	}
}

// An eighth of a step from either end: no rounding turns nearer to an end, and rounding never turns the order, so all between is rounded alike where these are.
func TestDecideIsWhatAllBetweenAreRoundedTo(t *testing.T) {
	t.Parallel()
	const fine = 8
	for p := 1; p <= 5; p++ {
		for f := 0; f < p; f++ {
			step := near(p-f, 0)
			step.Mul(step, big.NewInt(fine))
			for lo := -40; lo <= 40; lo++ {
				for hi := lo + 1; hi <= lo+20; hi++ {
					for _, mode := range allModes {
						first := roundedFrac(big.NewInt(int64(lo*fine+1)), step, mode)
						last := roundedFrac(big.NewInt(int64(hi*fine-1)), step, mode)
						got, ok := impl.Decide(smallIv(lo, hi), p, f, mode)
						if ok != (first.Cmp(last) == 0) || ok && bigOfWhole(got).Cmp(first) != 0 {
							t.Fatalf("from %d to %d at %d, with %d behind, by %d: %v, %v; just inside it is rounded to %v and %v", lo, hi, p, f, mode, got, ok, first, last)
						}
					}
				}
			}
		}
	}
}

func TestDecideAndNearOfSmallOnes(t *testing.T) {
	t.Parallel()
	for p := 1; p <= 6; p++ {
		for f := 0; f <= p; f++ {
			for lo := -20; lo <= 20; lo++ {
				for hi := lo; hi <= lo+12; hi++ {
					checkDecide(t, smallIv(lo, hi), p, f)
					checkNear(t, smallIv(lo, hi), p, f)
				}
			}
		}
	}
}

// Whatever ends there are, also such as leave no room for a bit more.
func TestDecideAndNearOfGreatOnes(t *testing.T) {
	t.Parallel()
	ivs := goodIvs()
	for _, n := range endNumbers() {
		for d := int64(1); d <= 3; d++ {
			if more := new(big.Int).Add(n, big.NewInt(d)); fitsWhole(more) {
				ivs = append(ivs, ivOf(n, more))
			}
		}
	}
	for _, v := range ivs {
		for _, c := range [][2]int{{1, 0}, {1, 1}, {2, 1}, {24, 0}, {25, 1}, {59, 59}, {60, 59}, {60, 60}, {61, 60}, {92, 60}, {260, 60}, {300, 7}, {479, 0}, {480, 0}, {480, 60}} {
			checkDecide(t, v, c[0], c[1])
			checkNear(t, v, c[0], c[1])
		}
	}
}

// About what turns a rounding: whole numbers and halves, of each size and with either sign.
func TestDecideAboutWhatTurnsTheRounding(t *testing.T) {
	t.Parallel()
	m := &mixer{state: 19191919}
	for range 400 {
		f := m.below(61)
		p := f + 1 + m.below(480-f)
		turn := near(p-f-1, 0)
		turn.Mul(turn, big.NewInt(int64(m.below(1<<30)-1<<29)))
		for lo := int64(-3); lo <= 2; lo++ {
			for hi := lo + 1; hi <= 3; hi++ {
				low, high := new(big.Int).Add(turn, big.NewInt(lo)), new(big.Int).Add(turn, big.NewInt(hi))
				checkDecide(t, ivOf(low, high), p, f)
				checkNear(t, ivOf(low, high), p, f)
			}
		}
	}
}

// What lies within something decided is decided alike, also where it is told with more bits.
func TestDecidedOfMoreIsDecidedOfLess(t *testing.T) {
	t.Parallel()
	m := &mixer{state: 314159}
	found := 0
	for range 3000 {
		f := m.below(20)
		p := f + m.below(30)
		if p == 0 {
			continue
		}
		lo := m.below(1<<20) - 1<<19
		hi := lo + 1 + m.below(1<<m.below(18))
		low := lo + m.below(hi-lo)
		high := low + 1 + m.below(hi-low)
		for _, mode := range allModes {
			wide, ok := impl.Decide(smallIv(lo, hi), p, f, mode)
			if !ok {
				continue
			}
			found++
			within, fine := impl.Decide(smallIv(low, high), p, f, mode)
			if !fine || !sameWhole(wide, within) {
				t.Fatalf("from %d to %d at %d, with %d behind, by %d: %v; from %d to %d: %v, %v", lo, hi, p, f, mode, wide, low, high, within, fine)
			}
			// Where p is f a half counts as it is rounded; with more bits it is on one side.
			if p == f {
				continue
			}
			finer, _ := impl.IvMove(smallIv(low, high), p, p+40)
			again, fine := impl.Decide(finer, p+40, f, mode)
			if !fine || !sameWhole(wide, again) {
				t.Fatalf("from %d to %d with 40 bits more by %d: %v, %v", low, high, mode, again, fine)
			}
			checkNearIt(t, within, smallIv(lo, hi), p, f)
		}
	}
	if found < 1000 {
		t.Error("only", found, "were decided")
	}
}

// Below nought it is as above it, the other way round.
func TestDecideBelowNought(t *testing.T) {
	for _, v := range goodIvs() {
		for _, c := range [][2]int{{1, 0}, {7, 7}, {480, 60}, {64, 3}} {
			for _, mode := range allModes {
				above, ok := impl.Decide(v, c[0], c[1], mode)
				below, fine := impl.Decide(impl.IvNeg(v), c[0], c[1], impl.Turned(mode))
				if ok != fine || !sameWhole(impl.WholeNeg(above), below) {
					t.Fatalf("%v at %d by %d is %v, its negative %v", v, c[0], mode, above, below)
				}
			}
		}
	}
}

func TestNearNamedOnes(t *testing.T) {
	cases := []struct{ lo, hi, p, f, below, above int }{
		{-41, 33, 4, 0, -3, 3}, {40, 40, 4, 0, 2, 3}, {48, 48, 4, 0, 3, 3}, {-48, -48, 4, 0, -3, -3}, {-40, -40, 4, 0, -3, -2}, {0, 0, 480, 60, 0, 0}, {0, 1, 480, 60, 0, 1}, {-1, 0, 480, 60, -1, 0},
		{-5, 7, 9, 9, -5, 7}, {5, 5, 60, 60, 5, 5}, {1, 1, 1, 0, 0, 1}, {-1, -1, 1, 0, -1, 0}, {7, 9, 63, 60, 0, 2}, {8, 8, 63, 60, 1, 1},
		// One below f.
		{5, 5, 59, 60, 0, 0}, {5, 9, 3, 4, 0, 0},
	}
	for _, c := range cases {
		below, above := impl.Near(smallIv(c.lo, c.hi), c.p, c.f)
		if !sameWhole(below, impl.WholeOf(c.below)) || !sameWhole(above, impl.WholeOf(c.above)) {
			t.Errorf("Near of %d to %d at %d, with %d behind: %v and %v", c.lo, c.hi, c.p, c.f, below, above)
		}
	}
}

func refusedNear(t *testing.T, name string, v impl.Iv, p int, f int) {
	t.Helper()
	below, above := impl.Near(v, p, f)
	refusedWhole(t, name, below, false)
	refusedWhole(t, name, above, false)
}

// Bounds that are met are accepted, bounds that are passed by one are refused, whatever stands beside them.
func TestDecideAndNearRefuse(t *testing.T) {
	v := smallIv(40, 41)
	for _, p := range slices.Concat(noDecidePlaces, []int{1, 60, 480}) {
		for _, f := range slices.Concat(noDecidePoints, []int{0, 1, 59, 60}) {
			bad := slices.Contains(noDecidePlaces, p) || slices.Contains(noDecidePoints, f) || p < f
			for _, mode := range slices.Concat(noModes, allModes) {
				one, ok := impl.Decide(v, p, f, mode)
				if bad || slices.Contains(noModes, mode) {
					refusedWhole(t, "Decide out of bounds", one, ok)
				} else if !ok && mode != impl.MdEven && mode != impl.MdAway {
					t.Errorf("Decide at %d, with %d behind, by %d: %v, %v", p, f, mode, one, ok)
				}
			}
			if bad {
				refusedNear(t, "Near out of bounds", v, p, f)
			} else {
				checkNear(t, v, p, f)
			}
		}
	}
	for _, bad := range badIvs() {
		for _, mode := range allModes {
			one, ok := impl.Decide(bad, 10, 4, mode)
			refusedWhole(t, "Decide of what is none", one, ok)
		}
		refusedNear(t, "Near of what is none", bad, 10, 4)
	}
	for _, n := range endNumbers() {
		for _, mode := range allModes {
			one, ok := impl.Decide(ivOf(n, n), 10, 4, mode)
			refusedWhole(t, "Decide with nothing between", one, ok)
		}
		checkNear(t, ivOf(n, n), 10, 4)
	}
}

// Promise 29: every function answers at any arguments, and writes into none; what was answered once is answered again.

func TestDecideWritesIntoNothingAndSharesNothing(t *testing.T) {
	t.Parallel()
	defer mustNotPanic(t)
	places := []int{math.MinInt, -1, 0, 1, 60, 480, 481, math.MaxInt}
	points := []int{math.MinInt, -1, 0, 60, 61, math.MaxInt}
	for _, v := range append(goodIvs(), badIvs()...) {
		x, rooms := layIv(v)
		for _, p := range places {
			for _, f := range points {
				below, above := impl.Near(x, p, f)
				checkApart(t, "Near", rooms, below.Mag, above.Mag)
				for _, mode := range []int{math.MinInt, 0, 3, 5, math.MaxInt} {
					one, ok := impl.Decide(x, p, f, mode)
					checkApart(t, "Decide", rooms, one.Mag, below.Mag, above.Mag)
					again, fine := impl.Decide(x, p, f, mode)
					if ok != fine || !sameWhole(one, again) {
						t.Fatalf("Decide of %v at %d is another one the second time", briefIv(v), p)
					}
				}
			}
		}
	}
	a, room := layWhole(impl.WholeOf(-123456789))
	below, above := impl.Near(impl.Iv{Lo: a, Hi: a}, 10, 10)
	checkApart(t, "Near of one list", []laid{room}, below.Mag, above.Mag)
}

// What was handed out is written over; asked backwards it is answered as it was.
func TestDecideIsAnsweredAgain(t *testing.T) {
	var told []string
	ask := func(i int) string {
		v := smallIv(i*37-500, i*37-470)
		one, _ := impl.Decide(v, 5+i%3, i%4, i%5)
		below, above := impl.Near(v, 5+i%3, i%4)
		text := impl.WholeText(one) + " " + impl.WholeText(below) + " " + impl.WholeText(above)
		for _, list := range [][]int{one.Mag, below.Mag, above.Mag} {
			clear(list)
		}
		return text
	}
	for i := range 40 {
		told = append(told, ask(i))
	}
	for i, want := range slices.Backward(told) {
		if got := ask(i); got != want {
			t.Errorf("the %dth is %s, and was %s", i, got, want)
		}
	}
}
