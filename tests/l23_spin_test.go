package tests

import (
	"math"
	"math/big"
	"slices"
	"sync"
	"testing"

	"loop.example/g00481/impl"
)

// Promise 23: each exact step makes the square of a length 4^i + 1 times as great, whichever way it turns.

const (
	mostSpin   = 30
	mostRaised = 2000
)

var (
	noSpins   = []int{math.MinInt, math.MinInt + 1, -30, -2, -1, 31, 32, 64, 1 << 32, 1<<32 + 3, math.MaxInt - 1, math.MaxInt}
	noWays    = []int{math.MinInt, math.MinInt + 1, -3, -2, 0, 2, 3, 1 << 32, 1<<32 + 1, math.MaxInt - 1, math.MaxInt}
	noRaised  = []int{math.MinInt, math.MinInt + 1, -2000, -2, -1, 2001, 2002, 1 << 32, 1<<32 + 7, math.MaxInt - 1, math.MaxInt}
	spinsOfIt = []int{0, 1, 2, 3, 7, 15, 23, 24, 25, 29, 30}
)

func spinOf(x *big.Int, y *big.Int, n int) impl.Spin {
	return impl.Spin{X: wholeOf(x), Y: wholeOf(y), N: n}
}

func smallSpin(x int, y int, n int) impl.Spin { return spinOf(bigInt(x), bigInt(y), n) }

func sameSpin(a impl.Spin, b impl.Spin) bool {
	return sameWhole(a.X, b.X) && sameWhole(a.Y, b.Y) && a.N == b.N
}

func briefSpin(s impl.Spin) impl.Spin {
	return impl.Spin{X: shortened(s.X), Y: shortened(s.Y), N: s.N}
}

func laySpin(s impl.Spin) (impl.Spin, []laid) {
	x, first := layWhole(s.X)
	y, second := layWhole(s.Y)
	return impl.Spin{X: x, Y: y, N: s.N}, []laid{first, second}
}

// Where a step leads to, whether there is room for it or not.
func spunNumbers(x *big.Int, y *big.Int, i int, d int) (*big.Int, *big.Int) {
	by := big.NewInt(int64(d))
	right, up := new(big.Int).Lsh(x, uint(i)), new(big.Int).Lsh(y, uint(i))
	right.Sub(right, new(big.Int).Mul(y, by))
	up.Add(up, new(big.Int).Mul(x, by))
	return right, up
}

func squareOf(x *big.Int, y *big.Int) *big.Int {
	return new(big.Int).Add(new(big.Int).Mul(x, x), new(big.Int).Mul(y, y))
}

// The point of a spin that is one.
func pointOf(s impl.Spin) (*big.Int, *big.Int) { return bigOfWhole(s.X), bigOfWhole(s.Y) }

func checkSpinStep(t *testing.T, s impl.Spin, i int, d int) {
	t.Helper()
	x, y := pointOf(s)
	right, up := spunNumbers(x, y, i, d)
	got, ok := impl.SpinStep(s, i, d)
	if !fitsWhole(right) || !fitsWhole(up) || s.N+i > mostRaised {
		refusedSpin(t, "SpinStep", got, ok, s)
		return
	}
	if !ok || !sameSpin(got, spinOf(right, up, s.N+i)) || !impl.SpinOk(got) {
		t.Fatalf("SpinStep(%v, %d, %d) = %v, %v", s, i, d, got, ok)
	}
	times := near(2*i, 1)
	want := times.Mul(times, squareOf(x, y))
	if got := impl.NormSquare(got); !sameWhole(got, wholeOf(want)) {
		t.Fatalf("SpinStep(%v, %d, %d) has the square %v, want %v", s, i, d, got, want)
	}
}

func refusedSpin(t *testing.T, name string, got impl.Spin, ok bool, was impl.Spin) {
	t.Helper()
	if ok || !sameSpin(got, was) {
		t.Fatalf("%s = %v, %v, want %v as it was, and false", name, briefSpin(got), ok, briefSpin(was))
	}
}

func goodSpins() []impl.Spin {
	var out []impl.Spin
	m := &mixer{state: 23232323}
	numbers := endNumbers()
	raised := []int{0, 1, 1000, 1970, 1971, 1999, 2000}
	for i, x := range numbers {
		out = append(out, spinOf(x, x, raised[i%7]), spinOf(x, new(big.Int), 0), spinOf(new(big.Int), x, 5))
		for range 2 {
			out = append(out, spinOf(x, numbers[m.below(len(numbers))], raised[m.below(7)]))
		}
	}
	return out
}

func badSpins() []impl.Spin {
	var out []impl.Spin
	for i, bad := range badWholes() {
		out = append(out, impl.Spin{X: bad, Y: impl.WholeOf(5), N: i}, impl.Spin{X: impl.WholeOf(-5), Y: bad}, impl.Spin{X: bad, Y: bad, N: 2000})
	}
	for _, n := range noRaised {
		out = append(out, smallSpin(3, 4, n), impl.Spin{N: n})
	}
	return append(out, impl.Spin{X: impl.Whole{Neg: true}, N: -1})
}

func TestSpinOkTellsSpins(t *testing.T) {
	if impl.MaxSpin != mostSpin {
		t.Error("MaxSpin", impl.MaxSpin)
	}
	for _, s := range goodSpins() {
		if !impl.SpinOk(s) {
			t.Errorf("SpinOk(%v) is false", s)
		}
	}
	for _, s := range badSpins() {
		if impl.SpinOk(s) {
			t.Errorf("SpinOk(%v) is true", briefSpin(s))
		}
	}
	if !impl.SpinOk(impl.Spin{}) || !impl.SpinOk(impl.Spin{N: 2000}) {
		t.Error("0 is refused")
	}
}

func TestSpinStepNamedOnes(t *testing.T) {
	cases := []struct{ x, y, n, i, d, right, up, raised, square int }{
		{3, 4, 0, 1, 1, 2, 11, 1, 125}, {3, 4, 0, 1, -1, 10, 5, 1, 125}, {3, 4, 0, 0, 1, -1, 7, 0, 50}, {3, 4, 0, 0, -1, 7, 1, 0, 50}, {-3, 4, 7, 2, 1, -16, 13, 9, 425}, {-3, -4, 7, 2, -1, -16, -13, 9, 425},
		{1, 0, 0, 0, 1, 1, 1, 0, 2}, {1, 0, 0, 0, -1, 1, -1, 0, 2}, {0, 1, 0, 3, 1, -1, 8, 3, 65}, {0, 0, 5, 30, 1, 0, 0, 35, 0}, {1, 0, 1970, 30, 1, 1 << 30, 1, 2000, 1<<60 + 1}, {0, -1, 2000, 0, -1, -1, -1, 2000, 2},
	}
	for _, c := range cases {
		got, ok := impl.SpinStep(smallSpin(c.x, c.y, c.n), c.i, c.d)
		if !ok || !sameSpin(got, smallSpin(c.right, c.up, c.raised)) || impl.WholeText(impl.NormSquare(got)) != impl.Digits(c.square) {
			t.Errorf("%v: %v, %v", c, got, ok)
		}
	}
}

func TestSpinStepsOfEach(t *testing.T) {
	for _, s := range goodSpins() {
		for _, i := range spinsOfIt {
			checkSpinStep(t, s, i, 1)
			checkSpinStep(t, s, i, -1)
		}
	}
	for i := 0; i <= mostSpin; i++ {
		for x := -4; x <= 4; x++ {
			for y := -4; y <= 4; y++ {
				checkSpinStep(t, smallSpin(x, y, 0), i, 1)
				checkSpinStep(t, smallSpin(x, y, 0), i, -1)
			}
		}
	}
}

// Both ways make the square as great; there and back the point lies where it was, longer.
func TestSpinStepsEitherWay(t *testing.T) {
	for _, s := range goodSpins() {
		for _, i := range spinsOfIt {
			left, ok := impl.SpinStep(s, i, 1)
			right, fine := impl.SpinStep(s, i, -1)
			if !ok || !fine {
				continue
			}
			if !sameWhole(impl.NormSquare(left), impl.NormSquare(right)) || left.N != right.N {
				t.Fatalf("%v turned by %d: %v and %v", s, i, left, right)
			}
			back, ok := impl.SpinStep(left, i, -1)
			if !ok {
				continue
			}
			x, y := pointOf(s)
			times := near(2*i, 1)
			if !sameSpin(back, spinOf(x.Mul(x, times), y.Mul(y, times), s.N+2*i)) {
				t.Fatalf("%v there and back by %d: %v", s, i, back)
			}
		}
	}
}

// The last bit for which there is room, and one more.
func TestSpinStepNeedsALimbMore(t *testing.T) {
	for _, i := range []int{0, 1, 29, 30} {
		for d := -1; d <= 1; d += 2 {
			// 2^i X less d Y is the most there is, or one more.
			for extra := int64(-1); extra <= 2; extra++ {
				x := near(mostBits-1-i, 0)
				y := near(mostBits-1, extra-1)
				if i > 0 {
					x.Lsh(x, 1).Sub(x, big.NewInt(1))
					y = near(i, extra-1)
				}
				y.Mul(y, big.NewInt(int64(-d)))
				checkSpinStep(t, spinOf(x, y, 0), i, d)
				checkSpinStep(t, spinOf(negativeOf(x), negativeOf(y), 0), i, d)
				checkSpinStep(t, spinOf(negativeOf(y), x, 0), i, d)
				checkSpinStep(t, spinOf(y, negativeOf(x), 0), i, d)
			}
		}
	}
	full := near(mostBits, -1)
	s := spinOf(full, full, 3)
	got, ok := impl.SpinStep(s, 0, 1)
	refusedSpin(t, "full and full together", got, ok, s)
	s = spinOf(full, new(big.Int), 3)
	if got, ok := impl.SpinStep(s, 0, 1); !ok || !sameSpin(got, spinOf(full, full, 3)) {
		t.Error("full and 0 together:", got, ok)
	}
	got, ok = impl.SpinStep(s, 1, 1)
	refusedSpin(t, "full, up by 1", got, ok, s)
}

func TestSpinStepRaisesNoFurtherThan2000(t *testing.T) {
	for n := 1960; n <= mostRaised; n++ {
		for i := 0; i <= mostSpin; i++ {
			s := smallSpin(3, -4, n)
			got, ok := impl.SpinStep(s, i, 1)
			if n+i > mostRaised {
				refusedSpin(t, "SpinStep beyond 2000", got, ok, s)
			} else if !ok || got.N != n+i {
				t.Fatalf("from %d by %d: %v, %v", n, i, got, ok)
			}
		}
	}
}

func TestSpinStepRefuses(t *testing.T) {
	s := smallSpin(3, 4, 5)
	for _, i := range slices.Concat(noSpins, []int{0, 30}) {
		for _, d := range slices.Concat(noWays, []int{1, -1}) {
			got, ok := impl.SpinStep(s, i, d)
			if slices.Contains(noSpins, i) || slices.Contains(noWays, d) {
				refusedSpin(t, "SpinStep out of bounds", got, ok, s)
			} else if !ok {
				t.Errorf("SpinStep by %d and %d is refused", i, d)
			}
		}
	}
	for _, bad := range badSpins() {
		for _, i := range []int{0, 1, 30, 31} {
			for _, d := range []int{1, -1, 0} {
				got, ok := impl.SpinStep(bad, i, d)
				refusedSpin(t, "SpinStep of what is none", got, ok, bad)
			}
		}
	}
}

// Step by step, however many there are.
func TestSpinRunIsStepBehindStep(t *testing.T) {
	t.Parallel()
	m := &mixer{state: 29292929}
	for _, s := range append(goodSpins(), badSpins()...) {
		for _, count := range []int{0, 1, 2, 5, 31, 32, 40} {
			ds := make([]int, count)
			for i := range ds {
				ds[i] = 1 - 2*m.below(2)
			}
			if count > 2 && m.below(3) == 0 {
				ds[m.below(count)] = noWays[m.below(len(noWays))]
			}
			want, fine := s, true
			for i, d := range ds {
				if want, fine = impl.SpinStep(want, i, d); !fine {
					want = s
					break
				}
			}
			got, ok := impl.SpinRun(s, ds)
			if ok != fine || !sameSpin(got, want) {
				t.Fatalf("SpinRun(%v, %v) = %v, %v, want %v, %v", briefSpin(s), ds, briefSpin(got), ok, briefSpin(want), fine)
			}
		}
	}
}

func TestSpinRunNamedOnes(t *testing.T) {
	s := smallSpin(3, 4, 0)
	ones := slices.Repeat([]int{1}, 40)
	cases := []struct {
		name string
		from impl.Spin
		ds   []int
		want impl.Spin
		ok   bool
	}{
		{"none", s, nil, s, true}, {"none", s, []int{}, s, true},
		{"one", s, []int{1}, smallSpin(-1, 7, 0), true}, {"two", s, []int{1, -1}, smallSpin(5, 15, 1), true},
		{"one refused", s, []int{0}, s, false}, {"the second refused", s, []int{1, 2}, s, false}, {"one in the middle refused", s, []int{1, -1, 0, 1}, s, false}, {"the last refused", s, []int{1, 1, 1, -2}, s, false},
		{"one too many", s, ones[:32], s, false}, {"many too many", s, ones, s, false},
		// 0 and 1 and all to 30 are 465.
		{"no room behind 30 steps", smallSpin(3, 4, 1536), ones[:31], smallSpin(3, 4, 1536), false},
		{"no room behind the second", smallSpin(3, 4, 2000), ones[:2], smallSpin(3, 4, 2000), false},
		{"0 and 0", impl.Spin{N: 1535}, ones[:31], impl.Spin{N: 2000}, true},
		{"full and full", spinOf(near(mostBits, -1), near(mostBits, -1), 9), []int{-1}, spinOf(near(mostBits, -1), near(mostBits, -1), 9), false},
		{"full and 0, the second refused", spinOf(near(mostBits, -1), new(big.Int), 9), []int{-1, 1}, spinOf(near(mostBits, -1), new(big.Int), 9), false},
	}
	for _, c := range cases {
		if got, ok := impl.SpinRun(c.from, c.ds); ok != c.ok || !sameSpin(got, c.want) {
			t.Errorf("%s: %v, %v", c.name, got, ok)
		}
	}
	if got, ok := impl.SpinRun(s, ones[:31]); !ok || got.N != 465 {
		t.Error("31 steps:", got.N, ok)
	}
}

// All together the square is as great as the product of all 4^i + 1, whichever way each one turns.
func TestSpinRunsWhicheverWay(t *testing.T) {
	m := &mixer{state: 31313131}
	for range 200 {
		count := m.below(32)
		ds := make([]int, count)
		want := big.NewInt(25)
		for i := range ds {
			ds[i] = 1 - 2*m.below(2)
			want.Mul(want, near(2*i, 1))
		}
		got, ok := impl.SpinRun(smallSpin(-4, 3, 0), ds)
		if !ok || got.N != count*(count-1)/2 || count == 0 && got.N != 0 || !sameWhole(impl.NormSquare(got), wholeOf(want)) {
			t.Fatalf("%v: %v, %v", ds, got, ok)
		}
	}
}

// Also where they need more limbs than a list may have otherwise.
func TestNormSquareAndCrossOfEach(t *testing.T) {
	spins := goodSpins()
	m := &mixer{state: 37373737}
	for _, a := range spins {
		x, y := pointOf(a)
		if got := impl.NormSquare(a); !sameWhole(got, wholeOf(squareOf(x, y))) {
			t.Fatalf("NormSquare(%v) = %v", a, got)
		}
		for range 12 {
			b := spins[m.below(len(spins))]
			right, up := pointOf(b)
			want := new(big.Int).Sub(new(big.Int).Mul(x, up), new(big.Int).Mul(y, right))
			got, back := impl.Cross(a, b), impl.Cross(b, a)
			if !sameWhole(got, wholeOf(want)) || !sameWhole(back, wholeOf(negativeOf(want))) {
				t.Fatalf("Cross(%v, %v) = %v, back %v", a, b, got, back)
			}
		}
		if got := impl.Cross(a, a); got.Neg || len(got.Mag) != 0 {
			t.Fatalf("Cross of %v and itself is %v", a, got)
		}
	}
	full := near(mostBits, -1)
	if got := impl.NormSquare(spinOf(full, negativeOf(full), 0)); len(got.Mag) != 2*mostLimbs+1 || got.Neg {
		t.Error("the greatest square has", len(got.Mag), "limbs")
	}
	if got := impl.Cross(spinOf(full, negativeOf(full), 0), spinOf(full, full, 0)); len(got.Mag) != 2*mostLimbs+1 || got.Neg {
		t.Error("the greatest product has", len(got.Mag), "limbs")
	}
}

// A step turns by d times the square of the length.
func TestCrossOfAStep(t *testing.T) {
	for _, s := range goodSpins() {
		for d := -1; d <= 1; d += 2 {
			next, ok := impl.SpinStep(s, 3, d)
			if !ok {
				continue
			}
			x, y := pointOf(s)
			want := squareOf(x, y)
			if got := impl.Cross(s, next); !sameWhole(got, wholeOf(want.Mul(want, big.NewInt(int64(d))))) {
				t.Fatalf("from %v to %v: %v", s, next, got)
			}
		}
	}
}

func TestNormSquareAndCrossRefuse(t *testing.T) {
	good := smallSpin(3, 4, 5)
	for _, bad := range badSpins() {
		refusedWhole(t, "NormSquare of what is none", impl.NormSquare(bad), false)
		refusedWhole(t, "Cross of what is none and one", impl.Cross(bad, good), false)
		refusedWhole(t, "Cross of one and what is none", impl.Cross(good, bad), false)
		refusedWhole(t, "Cross of what is none", impl.Cross(bad, bad), false)
	}
}

// Promise 29: every function answers at any arguments, and writes into none; what was answered once is answered again.

func TestSpinsWriteIntoNothingAndShareNothing(t *testing.T) {
	t.Parallel()
	defer mustNotPanic(t)
	numbers := []int{math.MinInt, -1, 0, 1, 30, 31, math.MaxInt}
	for _, s := range append(goodSpins(), badSpins()...) {
		x, rooms := laySpin(s)
		impl.SpinOk(x)
		square, cross := impl.NormSquare(x), impl.Cross(x, x)
		for _, i := range numbers {
			for _, d := range numbers {
				got, ok := impl.SpinStep(x, i, d)
				again, fine := impl.SpinStep(x, i, d)
				if ok != fine || !sameSpin(got, again) {
					t.Fatalf("SpinStep(%v, %d, %d) is another one the second time", briefSpin(s), i, d)
				}
				checkApart(t, "SpinStep", rooms, square.Mag, cross.Mag, got.X.Mag, got.Y.Mag, again.X.Mag, again.Y.Mag)
			}
		}
		for _, ds := range [][]int{nil, {}, {1}, {1, -1, 1}, {1, 0}, {math.MinInt}, numbers, slices.Repeat([]int{-1}, 40)} {
			ways := lay(ds)
			got, _ := impl.SpinRun(x, ways.list)
			checkApart(t, "SpinRun", append([]laid{ways}, rooms...), got.X.Mag, got.Y.Mag)
		}
	}
	long := slices.Repeat([]int{1}, 1<<20)
	if got, ok := impl.SpinRun(smallSpin(3, 4, 5), long); ok || !sameSpin(got, smallSpin(3, 4, 5)) {
		t.Error("a run of very many:", got, ok)
	}
}

// X and Y may be one list, and have room behind them though they are empty.
func TestSpinsOfOneList(t *testing.T) {
	a, room := layWhole(impl.WholeOf(-123456789))
	for _, d := range []int{1, -1, 0} {
		got, _ := impl.SpinStep(impl.Spin{X: a, Y: a}, 0, d)
		run, _ := impl.SpinRun(impl.Spin{X: a, Y: a}, []int{d, d})
		none, _ := impl.SpinRun(impl.Spin{X: a, Y: a}, nil)
		checkApart(t, "a spin of one list", []laid{room}, got.X.Mag, got.Y.Mag, run.X.Mag, run.Y.Mag, none.X.Mag, none.Y.Mag)
	}
	empty := lay(nil)
	got, _ := impl.SpinRun(impl.Spin{X: impl.Whole{Mag: empty.list}, Y: impl.Whole{Mag: empty.list}, N: -1}, []int{1})
	checkApart(t, "an empty list", []laid{empty}, append(got.X.Mag, 1), append(got.Y.Mag, 1))
}

// What was handed out is written over; asked in another order and by many at once it is answered as it was.
func TestSpinsAreAnsweredAgain(t *testing.T) {
	spins := goodSpins()
	ask := func(s impl.Spin) string {
		step, _ := impl.SpinStep(s, 2, -1)
		run, _ := impl.SpinRun(s, []int{1, 1, -1})
		square, cross := impl.NormSquare(step), impl.Cross(s, step)
		text := impl.WholeText(step.X) + " " + impl.WholeText(step.Y) + " " + impl.WholeText(run.X) + " " + impl.WholeText(run.Y) + " " + impl.WholeText(square) + " " + impl.WholeText(cross)
		for _, list := range [][]int{step.X.Mag, step.Y.Mag, run.X.Mag, run.Y.Mag, square.Mag, cross.Mag} {
			clear(list)
		}
		return text
	}
	var told []string
	for _, s := range spins {
		told = append(told, ask(s))
	}
	var all sync.WaitGroup
	for range 4 {
		all.Go(func() {
			for i, want := range slices.Backward(told) {
				if got := ask(spins[i]); got != want {
					t.Errorf("%v: %s, and was %s", spins[i], got, want)
				}
			}
		})
	}
	all.Wait()
}
