package tests

import (
	"math"
	"math/big"
	"slices"
	"sync"
	"testing"

	"loop.example/g00481/impl"
)

// Promise 25: the fast way tells the word below the true value or the one above it.

const mostFastAt = 118

var (
	noFastPlaces = []int{math.MinInt, math.MinInt + 1, -118, -2, -1, 0, 119, 120, 200, 300, 1 << 32, 1<<32 + 5, math.MaxInt - 1, math.MaxInt}
	fastPlaces   = []int{1, 2, 3, 5, 24, 25, 60, 84, 117, 118}
	fastFuns     = []int{impl.FuSin, impl.FuCos, impl.FuAtan, impl.FuAtan2}
)

func gainPair(n int, p int) pair { return gainSquarePair(n, p+16).root(p+16).moved(p+16, p) }

func inverseNumber(n int, p int) *big.Int { return onePair(near(p, 0)).div(gainPair(n, p), p).lo }

func stepsAt(p int) int { return min(p+2, 120) }

// What the fast way makes of an angle: sine and cosine at p.
func (known stepAngles) wave(v int, f int, turns bool, p int) (*big.Int, *big.Int) {
	n, rest := quarterPair(v, f, turns, p)
	start := kernOf(inverseNumber(stepsAt(p), p), new(big.Int), rest.lo)
	end := known.turned(start, p, stepsAt(p), func(_ *big.Int, z *big.Int) bool { return z.Sign() >= 0 })
	s, c := bigOfWhole(end.Y), bigOfWhole(end.X)
	sine, cosine := s, c
	switch n {
	case 1:
		sine, cosine = c, negativeOf(s)
	case 2:
		sine, cosine = negativeOf(s), negativeOf(c)
	case 3:
		sine, cosine = negativeOf(c), s
	}
	if v < 0 {
		sine = negativeOf(sine)
	}
	return sine, cosine
}

// And of a point: its angle at p.
func (known stepAngles) angle(y int, x int, turns bool, p int) *big.Int {
	u, w := new(big.Int).Abs(bigInt(x)), new(big.Int).Abs(bigInt(y))
	s := p + 2 - maxOf(u, w).BitLen()
	raised := func(n *big.Int) *big.Int {
		if s < 0 {
			return floorOf(n, near(-s, 0))
		}
		return new(big.Int).Lsh(n, uint(s))
	}
	end := known.turned(kernOf(raised(u), raised(w), new(big.Int)), p, stepsAt(p), func(y *big.Int, _ *big.Int) bool { return y.Sign() < 0 })
	out := bigOfWhole(end.Z)
	pi := piPair(p).lo
	if x < 0 {
		out = new(big.Int).Sub(pi, out)
	}
	if y < 0 {
		out = negativeOf(out)
	}
	if turns {
		out = floorOf(new(big.Int).Lsh(out, uint(p)), new(big.Int).Lsh(pi, 1))
	}
	return out
}

// The whole number that the fast way tells ahead of Fit.
func (known stepAngles) fast(c impl.Conf, fn int, a int, b int) *big.Int {
	p := c.Out.F + 24
	sine, cosine := new(big.Int), new(big.Int)
	if fn == impl.FuSin || fn == impl.FuCos {
		sine, cosine = known.wave(a, c.In.F, c.Turns, p)
	}
	var at *big.Int
	switch fn {
	case impl.FuSin:
		at = sine
	case impl.FuCos:
		at = cosine
	case impl.FuAtan:
		at = known.angle(a, 1<<c.In.F, c.Turns, p)
	case impl.FuAtan2:
		at = known.angle(a, b, c.Turns, p)
	}
	return roundedFrac(at, near(24, 0), impl.MdEven)
}

func (known stepAngles) checkWave(t *testing.T, v int, f int, turns bool, p int) {
	t.Helper()
	sine, cosine := known.wave(v, f, turns, p)
	s, c, ok := impl.FastWave(v, f, turns, p)
	if !ok || !sameWhole(s, wholeOf(sine)) || !sameWhole(c, wholeOf(cosine)) {
		t.Fatalf("FastWave(%d, %d, %v, %d) = %v, %v, %v, want %v, %v", v, f, turns, p, s, c, ok, sine, cosine)
	}
	trueSine, trueCosine := trueWave(angleValue(v, f, turns))
	checkOff(t, "FastWave's sine", s, p, trueSine)
	checkOff(t, "FastWave's cosine", c, p, trueCosine)
}

func (known stepAngles) checkAngle(t *testing.T, y int, x int, turns bool, p int) {
	t.Helper()
	want := known.angle(y, x, turns, p)
	got, ok := impl.FastAngle(y, x, turns, p)
	if !ok || !sameWhole(got, wholeOf(want)) {
		t.Fatalf("FastAngle(%d, %d, %v, %d) = %v, %v, want %v", y, x, turns, p, got, ok, want)
	}
	checkOff(t, "FastAngle", got, p, trueAngleValue(y, x, turns))
}

// No step is lost but for what is cut off at each.
func checkOff(t *testing.T, name string, got impl.Whole, p int, value *big.Float) {
	t.Helper()
	off := lessOf(realOf(bigOfWhole(got)), scaled(value, p))
	if off.Abs(off).Cmp(offBy(stepsAt(p))) > 0 {
		t.Fatalf("%s at %d is off by %s", name, p, off.Text('f', 3))
	}
}

func TestInverseOfEachGain(t *testing.T) {
	t.Parallel()
	check := func(n int, p int) {
		got, ok := impl.Inverse(n, p)
		if want := inverseNumber(n, p); !ok || !sameWhole(got, wholeOf(want)) {
			t.Fatalf("Inverse(%d, %d) = %v, %v, want %v", n, p, got, ok, want)
		}
		value := scaled(quotientOf(exactly(1), rootOf(trueGainSquare(n))), p)
		if off := lessOf(value, realOf(bigOfWhole(got))); off.Sign() < 0 || off.Cmp(exactly(3)) > 0 {
			t.Fatalf("Inverse(%d, %d) is less than it should be by %s", n, p, off.Text('f', 3))
		}
	}
	for n := 0; n <= mostSteps; n++ {
		for _, p := range []int{1, 2, 30, 118, 200} {
			check(n, p)
		}
	}
	for p := 1; p <= mostKernAt; p++ {
		for _, n := range []int{0, 1, 2, 60, 120} {
			check(n, p)
		}
	}
}

func TestInverseNamedOnes(t *testing.T) {
	// Without a step nothing is made longer; one step makes it longer by the root of 2: from 45 to 46 by 32. (The inverse of 40 steps is 652032874.05, and of what the gain is at most a little less.)
	for _, c := range []struct{ n, p, want int }{{0, 1, 2}, {0, 5, 32}, {0, 60, 1 << 60}, {1, 5, 22}, {2, 5, 20}, {3, 1, 1}, {40, 30, 652032873}} {
		got, ok := impl.Inverse(c.n, c.p)
		if n, fine := impl.WholeInt(got); !ok || !fine || n != c.want {
			t.Errorf("Inverse(%d, %d) = %d, %v, want %d", c.n, c.p, n, ok, c.want)
		}
	}
	if got, ok := impl.Inverse(0, 200); !ok || !sameWhole(got, wholeOf(near(200, 0))) {
		t.Error("no step at 200:", got, ok)
	}
}

func TestInverseRefuses(t *testing.T) {
	for _, n := range slices.Concat(noSteps, []int{0, 1, 120}) {
		for _, p := range slices.Concat(noKernPlaces, []int{1, 118, 119, 200}) {
			got, ok := impl.Inverse(n, p)
			if slices.Contains(noSteps, n) || slices.Contains(noKernPlaces, p) {
				refusedWhole(t, "Inverse out of bounds", got, ok)
			} else if !ok {
				t.Errorf("Inverse(%d, %d) is refused", n, p)
			}
		}
	}
}

// By hand: at 1 bit the angles are 1, 0 and 0, and the inverse of three steps is 1.
func TestFastWaveNamedOnes(t *testing.T) {
	cases := []struct {
		v, f  int
		turns bool
		p     int
		s, c  int
	}{
		{0, 0, false, 1, 1, 1}, {0, 60, true, 1, 1, 1},
		// A quarter of a turn on each is the next one's: 1 and -1, -1 and -1, -1 and 1.
		{1, 2, true, 1, 1, -1}, {2, 2, true, 1, -1, -1}, {3, 2, true, 1, -1, 1}, {4, 2, true, 1, 1, 1},
		{-1, 2, true, 1, -1, -1}, {-2, 2, true, 1, 1, -1}, {-3, 2, true, 1, 1, 1},
	}
	for _, c := range cases {
		sine, cosine, ok := impl.FastWave(c.v, c.f, c.turns, c.p)
		s, _ := impl.WholeInt(sine)
		n, _ := impl.WholeInt(cosine)
		if !ok || s != c.s || n != c.c {
			t.Errorf("%v: %d, %d, %v", c, s, n, ok)
		}
	}
}

func TestFastWavesOfWords(t *testing.T) {
	t.Parallel()
	known := stepAngles{}
	m := &mixer{state: 25252525}
	for _, turns := range bothWays {
		for _, f := range somePoints {
			for _, v := range someArgs(m) {
				known.checkWave(t, v, f, turns, fastPlaces[m.below(len(fastPlaces))])
			}
		}
	}
}

func TestFastWavesAtEachPlace(t *testing.T) {
	t.Parallel()
	known := stepAngles{}
	for p := 1; p <= mostFastAt; p++ {
		for _, turns := range bothWays {
			for _, v := range []int{0, 5, -37, mostArg, -mostArg} {
				known.checkWave(t, v, 5, turns, p)
			}
		}
	}
}

// All sixteenths of a turn both ways, and what lies beside them; and angles in each quarter.
func TestFastWavesInEachQuarter(t *testing.T) {
	t.Parallel()
	known := stepAngles{}
	for n := -20; n <= 20; n++ {
		for _, p := range []int{1, 24, 84, 118} {
			for d := -1; d <= 1; d++ {
				known.checkWave(t, n<<20+d, 24, true, p)
			}
			known.checkWave(t, n, 1, false, p)
			known.checkWave(t, n<<50+n, 54, false, p)
		}
	}
}

func TestFastWaveRefuses(t *testing.T) {
	args, points, places := slices.Concat(noArgs, []int{-mostArg, 0, mostArg}), slices.Concat(noPoints, []int{0, 60}), slices.Concat(noFastPlaces, []int{1, 118})
	for _, turns := range bothWays {
		for _, v := range args {
			for _, f := range points {
				for _, p := range places {
					sine, cosine, ok := impl.FastWave(v, f, turns, p)
					if slices.Contains(noArgs, v) || slices.Contains(noPoints, f) || slices.Contains(noFastPlaces, p) {
						refusedWhole(t, "FastWave's sine out of bounds", sine, ok)
						refusedWhole(t, "FastWave's cosine out of bounds", cosine, ok)
					} else if !ok {
						t.Errorf("FastWave(%d, %d, %v, %d) is refused", v, f, turns, p)
					}
				}
			}
		}
	}
}

// By hand: at 1 bit the point (1, 1) is made (4, 4), and pi is 6.
func TestFastAngleNamedOnes(t *testing.T) {
	cases := []struct {
		y, x  int
		turns bool
		p     int
		want  int
	}{
		{1, 1, false, 1, 1}, {1, 1, true, 1, 0}, {-1, 1, false, 1, -1}, {-1, 1, true, 1, -1}, {1, -1, false, 1, 5}, {1, -1, true, 1, 0}, {-1, -1, false, 1, -5}, {-1, -1, true, 1, -1},
		// (0, 2^61) is made (0, 4), and so is (1, 2^61): what is cut off of it is all of it.
		{mostArg, 0, false, 1, 1}, {mostArg, 1, false, 1, 1}, {mostArg, -1, false, 1, 5}, {-mostArg, -1, false, 1, -5},
	}
	for _, c := range cases {
		got, ok := impl.FastAngle(c.y, c.x, c.turns, c.p)
		if n, fine := impl.WholeInt(got); !ok || !fine || n != c.want {
			t.Errorf("%v: %d, %v", c, n, ok)
		}
	}
}

func TestFastAnglesOfSmallPoints(t *testing.T) {
	t.Parallel()
	known := stepAngles{}
	for y := -5; y <= 5; y++ {
		for x := -5; x <= 5; x++ {
			for _, turns := range bothWays {
				for _, p := range []int{1, 2, 24, 84, 118} {
					if x != 0 || y != 0 {
						known.checkAngle(t, y, x, turns, p)
					}
				}
			}
		}
	}
}

func TestFastAnglesOfPoints(t *testing.T) {
	t.Parallel()
	known := stepAngles{}
	m := &mixer{state: 52525252}
	args := someArgs(m)
	for _, turns := range bothWays {
		for _, y := range args {
			for range 4 {
				if x := args[m.below(len(args))]; x != 0 || y != 0 {
					known.checkAngle(t, y, x, turns, fastPlaces[m.below(len(fastPlaces))])
				}
			}
		}
	}
}

// Points on the axes and on the diagonals, of each size.
func TestFastAnglesOfEighths(t *testing.T) {
	t.Parallel()
	known := stepAngles{}
	m := &mixer{state: 83838383}
	for k := 0; k <= 61; k++ {
		n := 1 << k
		if k < 61 {
			n += m.below(1 << k)
		}
		for _, at := range [][2]int{{0, n}, {n, n}, {n, 0}, {n, -n}, {0, -n}, {-n, -n}, {-n, 0}, {-n, n}} {
			for _, turns := range bothWays {
				known.checkAngle(t, at[0], at[1], turns, fastPlaces[m.below(len(fastPlaces))])
			}
		}
	}
}

func TestFastAnglesAtEachPlace(t *testing.T) {
	t.Parallel()
	known := stepAngles{}
	for p := 1; p <= mostFastAt; p++ {
		for _, turns := range bothWays {
			for _, at := range [][2]int{{1, 1}, {-3, 7}, {mostArg, -1}, {-mostArg, -mostArg}, {mostArg - 1, mostArg}, {1, -mostArg}, {0, -1}} {
				known.checkAngle(t, at[0], at[1], turns, p)
			}
		}
	}
}

func TestFastAngleRefuses(t *testing.T) {
	args, places := slices.Concat(noArgs, []int{-mostArg, 0, 1, mostArg}), slices.Concat(noFastPlaces, []int{1, 118})
	for _, turns := range bothWays {
		for _, y := range args {
			for _, x := range args {
				for _, p := range places {
					got, ok := impl.FastAngle(y, x, turns, p)
					if slices.Contains(noArgs, y) || slices.Contains(noArgs, x) || slices.Contains(noFastPlaces, p) || x == 0 && y == 0 {
						refusedWhole(t, "FastAngle out of bounds, or of nowhere", got, ok)
					} else if !ok {
						t.Errorf("FastAngle(%d, %d, %v, %d) is refused", y, x, turns, p)
					}
				}
			}
		}
	}
}

// What is answered, and that it is the word below the true value or the one above it.
func (known stepAngles) checkFast(t *testing.T, truth truths, c impl.Conf, fn int, a int, b int) {
	t.Helper()
	v, how := impl.Fast(c, fn, a, b)
	if !takesTwo(fn) {
		b = 0
	}
	if !inDomain(fn, c.Turns, c.In.F, a, b) {
		if v != 0 || how != impl.StDomain {
			t.Fatalf("Fast(%v, %d, %d, %d) = %d, %d outside the domain", c, fn, a, b, v, how)
		}
		return
	}
	number := known.fast(c, fn, a, b)
	if want, came := fitted(c.Out, c.Policy, number); v != want || how != came {
		t.Fatalf("Fast(%v, %d, %d, %d) = %d, %d, want %d, %d", c, fn, a, b, v, how, want, came)
	}
	off := lessOf(realOf(number), scaled(truth.of(c, fn, a, b), c.Out.F))
	if off.Abs(off).Cmp(exactly(1)) >= 0 {
		t.Fatalf("Fast of %s of %d and %d with %v is off by %s words", funNames[fn], a, b, c, off.Text('f', 6))
	}
	if how == impl.StOk {
		checkEitherWord(t, c, fn, a, b, v)
	}
}

// As Both tells the words on either side, where both of them fit.
func checkEitherWord(t *testing.T, c impl.Conf, fn int, a int, b int, v int) {
	t.Helper()
	below, above, how := impl.Both(c, fn, a, b)
	if how == impl.StOk && v != below && v != above {
		t.Fatalf("Fast of %s of %d and %d with %v is %d, neither %d nor %d", funNames[fn], a, b, c, v, below, above)
	}
}

func TestFastNamedOnes(t *testing.T) {
	q8, q12 := impl.Fmt{Signed: true, W: 16, F: 8}, impl.Fmt{Signed: true, W: 16, F: 12}
	wholes, bare, tiny := impl.Fmt{Signed: true, W: 8}, impl.Fmt{W: 8, F: 4}, impl.Fmt{Signed: true, W: 6, F: 5}
	cases := []struct {
		name      string
		out       impl.Fmt
		policy    int
		turns     bool
		fn, a, b  int
		want, how int
	}{
		{"the sine of 1", q12, 0, false, impl.FuSin, 256, 99, 3447, impl.StOk},
		{"the sine of -1", q12, 1, false, impl.FuSin, -256, 99, -3447, impl.StOk},
		{"the sine of 0", q12, 1, false, impl.FuSin, 0, 0, 0, impl.StOk},
		{"the cosine of 0", q12, 1, false, impl.FuCos, 0, 0, 4096, impl.StOk},
		{"the sine of an eighth", q12, 2, true, impl.FuSin, 32, 0, 2896, impl.StOk},
		{"the cosine of a half", q12, 2, true, impl.FuCos, 128, 0, -4096, impl.StOk},
		{"the sine of three quarters", q12, 2, true, impl.FuSin, 192, 0, -4096, impl.StOk},
		{"the angle of 1", q12, 1, false, impl.FuAtan, 256, -1, 3217, impl.StOk},
		{"the angle of -1 in a turn", q12, 1, true, impl.FuAtan, -256, -1, -512, impl.StOk},
		{"half pi", q12, 1, false, impl.FuAtan2, 5, 0, 6434, impl.StOk},
		{"pi", q12, 1, false, impl.FuAtan2, 0, -5, 12868, impl.StOk},
		{"three eighths", q12, 1, true, impl.FuAtan2, 5, -5, 1536, impl.StOk},
		{"the cosine of 1 in wholes", wholes, 1, false, impl.FuCos, 256, 0, 1, impl.StOk},
		{"the sine of 0.25 in wholes", wholes, 1, false, impl.FuSin, 64, 0, 0, impl.StOk},
		// What does not fit, by each policy: 1 in words that end just below it, and what is below nought in words without a sign.
		{"1, saturated", tiny, impl.PoSat, false, impl.FuCos, 0, 0, 31, impl.StSat},
		{"1, refused", tiny, impl.PoError, false, impl.FuCos, 0, 0, 0, impl.StOver},
		{"1, wrapped", tiny, impl.PoWrap, false, impl.FuCos, 0, 0, -32, impl.StWrap},
		{"-1, saturated", bare, impl.PoSat, true, impl.FuCos, 128, 0, 0, impl.StSat},
		{"-1, refused", bare, impl.PoError, true, impl.FuCos, 128, 0, 0, impl.StOver},
		{"-1, wrapped", bare, impl.PoWrap, true, impl.FuCos, 128, 0, 240, impl.StWrap},
		{"nowhere", q12, 0, false, impl.FuAtan2, 0, 0, 0, impl.StDomain},
	}
	for _, c := range cases {
		for _, mode := range allModes {
			v, how := impl.Fast(confOf(q8, c.out, mode, c.policy, c.turns), c.fn, c.a, c.b)
			if v != c.want || how != c.how {
				t.Errorf("%s by mode %d: %d, %d, want %d, %d", c.name, mode, v, how, c.want, c.how)
			}
		}
	}
}

// Every word of a short format.
func TestFastOfEveryShortWord(t *testing.T) {
	for i, s := range []struct{ in, out impl.Fmt }{
		{impl.Fmt{Signed: true, W: 6, F: 3}, impl.Fmt{Signed: true, W: 7, F: 4}},
		{impl.Fmt{Signed: true, W: 6, F: 1}, impl.Fmt{W: 5, F: 0}},
		{impl.Fmt{W: 5, F: 5}, impl.Fmt{Signed: true, W: 6, F: 6}},
		{impl.Fmt{Signed: true, W: 6, F: 6}, impl.Fmt{Signed: true, W: 60, F: 60}},
		{impl.Fmt{Signed: true, W: 6, F: 0}, impl.Fmt{Signed: true, W: 9, F: 3}},
	} {
		for _, turns := range bothWays {
			t.Run(nameOf(s.in)+" "+nameOf(s.out), func(t *testing.T) {
				t.Parallel()
				known, truth := stepAngles{}, truths{}
				least, most := boundsOf(s.in)
				for _, fn := range fastFuns {
					for a := least; a <= most; a++ {
						for _, b := range []int{least, a, 0, 1, most} {
							if takesTwo(fn) || b == most {
								known.checkFast(t, truth, confOf(s.in, s.out, (a-least+i)%5, (a-least)%3, turns), fn, a, b)
							}
						}
					}
				}
			})
		}
	}
}

// Words of every format, great angles among them: the edges, and some between.
func TestFastOfLongWords(t *testing.T) {
	formats := append(someFormats(), impl.Fmt{Signed: true, W: 60}, impl.Fmt{W: 60, F: 60}, impl.Fmt{Signed: true, W: 60, F: 60}, impl.Fmt{W: 60})
	for part := range 4 {
		t.Run("part", func(t *testing.T) {
			t.Parallel()
			m := &mixer{state: 92929292 + uint64(part)}
			known, truth := stepAngles{}, truths{}
			for range 100 {
				c := confOf(formats[m.below(len(formats))], formats[m.below(len(formats))], m.below(5), m.below(3), m.below(2) == 0)
				least, most := boundsOf(c.In)
				raws := append(rawsOf(c.In), least+m.below(most-least), least+m.below(most-least))
				for _, fn := range fastFuns {
					known.checkFast(t, truth, c, fn, raws[m.below(len(raws))], raws[m.below(len(raws))])
				}
			}
		})
	}
}

// Where the answer goes from one word to the next each bit that was cut off counts.
func TestFastAtTheHalves(t *testing.T) {
	t.Parallel()
	known, truth := stepAngles{}, truths{}
	m := &mixer{state: 55885588}
	for _, out := range []impl.Fmt{{Signed: true, W: 8}, {Signed: true, W: 12, F: 4}, {Signed: true, W: 40, F: 17}, {Signed: true, W: 60, F: 40}} {
		for _, turns := range bothWays {
			c := confOf(impl.Fmt{Signed: true, W: 60, F: 56}, out, impl.MdDown, impl.PoError, turns)
			for _, fn := range fastFuns {
				for range 2 {
					// Both lie below an eighth of a turn, where all four go one way.
					low, high := m.below(1<<51), 1<<52+m.below(1<<52)
					for first, _ := impl.Fast(c, fn, low, 1<<55); high-low > 1; {
						middle := low + (high-low)/2
						if v, _ := impl.Fast(c, fn, middle, 1<<55); v == first {
							low = middle
						} else {
							high = middle
						}
					}
					for d := -3; d <= 3; d++ {
						known.checkFast(t, truth, c, fn, low+d, 1<<55)
					}
				}
			}
		}
	}
}

// What is exact is told exactly: there is one word that is neither below nor above it.
func TestFastOfWhatIsExact(t *testing.T) {
	t.Parallel()
	known, truth := stepAngles{}, truths{}
	for _, out := range []impl.Fmt{{Signed: true, W: 60, F: 57}, {Signed: true, W: 12, F: 8}, {Signed: true, W: 8}} {
		c := confOf(impl.Fmt{Signed: true, W: 60, F: 50}, out, impl.MdDown, impl.PoError, true)
		for k := -12; k <= 12; k++ {
			for _, fn := range fastFuns {
				a := k << 47
				known.checkFast(t, truth, c, fn, a, a)
				known.checkFast(t, truth, c, fn, a, -a)
				n, shift, ok := impl.Exact(fn, true, 50, a, a)
				if v, how := impl.Fast(c, fn, a, a); ok && out.F >= shift && (how != impl.StOk || v != n<<(out.F-shift)) {
					t.Fatalf("%s of %d eighths in %v: %d, %d", funNames[fn], k, out, v, how)
				}
			}
		}
	}
}

// StBad comes first, over all that is asked; then StDomain.
func TestFastTellsTheFirstReason(t *testing.T) {
	q := impl.Fmt{Signed: true, W: 16, F: 8}
	good := confOf(q, q, impl.MdEven, impl.PoError, true)
	bad := []impl.Conf{{}}
	for _, f := range noFormats() {
		bad = append(bad, confOf(f, q, 3, 1, true), confOf(q, f, 3, 1, true))
	}
	for _, mode := range noModes {
		bad = append(bad, rounding(good, mode))
	}
	for _, policy := range noPolicies {
		bad = append(bad, confOf(q, q, 3, policy, true))
	}
	refused := func(name string, c impl.Conf, fn int, a int, b int, want int) {
		t.Helper()
		if v, how := impl.Fast(c, fn, a, b); v != 0 || how != want {
			t.Errorf("%s: Fast(%v, %d, %d, %d) = %d, %d, want %d", name, c, fn, a, b, v, how, want)
		}
	}
	for _, c := range bad {
		for _, fn := range fastFuns {
			refused("no Conf", c, fn, 1, 1, impl.StBad)
		}
		refused("no Conf, of nowhere", c, impl.FuAtan2, 0, 0, impl.StBad)
	}
	for fn := range 15 {
		if slices.Contains(fastFuns, fn) {
			continue
		}
		// Also where it is outside the domain.
		for _, b := range []int{0, 1, -256, 99999} {
			for _, a := range []int{0, 1, 64, -1, 256, 99999} {
				refused("no fast way", good, fn, a, b, impl.StBad)
			}
		}
	}
	for _, fn := range noFuns {
		refused("no function", good, fn, 1, 1, impl.StBad)
		refused("no function, of nowhere", good, fn, 0, 0, impl.StBad)
	}
	for _, fn := range fastFuns {
		for _, a := range []int{-32769, 32768, math.MinInt, math.MaxInt, mostArg, -mostArg} {
			refused("no word", good, fn, a, 0, impl.StBad)
		}
	}
	for _, b := range []int{-32769, 32768, math.MinInt, math.MaxInt} {
		refused("no second word", good, impl.FuAtan2, 0, b, impl.StBad)
		refused("no second word", good, impl.FuAtan2, 1, b, impl.StBad)
		for _, fn := range fastFuns[:3] {
			v, how := impl.Fast(good, fn, 100, b)
			if want, came := impl.Fast(good, fn, 100, 0); v != want || how != came || how != impl.StOk {
				t.Errorf("%s of 100 beside %d: %d, %d, beside 0 %d, %d", funNames[fn], b, v, how, want, came)
			}
		}
	}
	refused("nowhere", good, impl.FuAtan2, 0, 0, impl.StDomain)
	refused("nowhere, without turns", confOf(q, q, 0, 0, false), impl.FuAtan2, 0, 0, impl.StDomain)
}

// The least and the greatest raw number, and one beyond each, of every format.
func TestFastAtTheBoundsOfWhatComes(t *testing.T) {
	t.Parallel()
	known, truth := stepAngles{}, truths{}
	for i, f := range someFormats() {
		least, most := boundsOf(f)
		c := confOf(f, impl.Fmt{Signed: true, W: 60, F: 20}, i%5, i%3, i%2 == 0)
		for _, fn := range fastFuns {
			known.checkFast(t, truth, c, fn, least, most)
			known.checkFast(t, truth, c, fn, most, least)
			for _, a := range []int{least - 1, most + 1} {
				if v, how := impl.Fast(c, fn, a, 1); v != 0 || how != impl.StBad {
					t.Fatalf("%s of %d, which is no word of %v: %d, %d", funNames[fn], a, f, v, how)
				}
			}
		}
	}
}

// Promise 29: every function answers at any arguments; what was answered once is answered again.

func TestFastAnswersAtAnything(t *testing.T) {
	t.Parallel()
	defer mustNotPanic(t)
	any := []int{math.MinInt, math.MinInt + 1, -mostArg - 1, -mostArg, -1, 0, 1, 60, 61, 118, 119, 120, 121, mostArg, mostArg + 1, math.MaxInt - 1, math.MaxInt}
	for _, a := range any {
		for _, b := range any {
			first, _ := impl.Inverse(a, b)
			second, _ := impl.Inverse(a, b)
			checkApart(t, "Inverse", nil, first.Mag, second.Mag)
			for _, p := range any {
				sine, cosine, ok := impl.FastWave(a, b, true, p)
				s, c, fine := impl.FastWave(a, b, true, p)
				angle, told := impl.FastAngle(a, b, false, p)
				again, too := impl.FastAngle(a, b, false, p)
				if ok != fine || told != too || !sameWhole(s, sine) || !sameWhole(c, cosine) || !sameWhole(again, angle) {
					t.Fatalf("of %d, %d and %d another one is answered the second time", a, b, p)
				}
				checkApart(t, "the fast way", nil, s.Mag, c.Mag, sine.Mag, cosine.Mag, angle.Mag, again.Mag)
				for _, fn := range fastFuns {
					impl.Fast(confOf(impl.Fmt{Signed: true, W: b, F: p}, impl.Fmt{W: p, F: 2}, 3, 0, true), fn, a, b)
				}
			}
			for _, fn := range slices.Concat(any, fastFuns) {
				impl.Fast(confOf(impl.Fmt{W: 60}, impl.Fmt{W: 60, F: 60}, 3, 0, false), fn, a, b)
			}
		}
	}
}

// What was handed out is written over; asked in another order and by many at once it is answered as it was.
func TestFastIsAnsweredAgain(t *testing.T) {
	ask := func(i int) string {
		p := []int{1, 30, 84, 118}[i%4]
		sine, cosine, _ := impl.FastWave(7*i-99, 4, i%3 == 0, p)
		angle, _ := impl.FastAngle(i-20, 11-i, i%3 == 0, p)
		inverse, _ := impl.Inverse(i, p)
		v, how := impl.Fast(confOf(impl.Fmt{Signed: true, W: 40, F: 4}, impl.Fmt{Signed: true, W: 60, F: 50}, 3, 0, i%2 == 0), fastFuns[i%4], 7*i-99, 5)
		text := impl.Digits(v) + " " + impl.Digits(how)
		for _, a := range []impl.Whole{sine, cosine, angle, inverse} {
			text += " " + impl.WholeText(a)
			clear(a.Mag)
		}
		return text
	}
	var told []string
	for i := range 40 {
		told = append(told, ask(i))
	}
	var all sync.WaitGroup
	for range 4 {
		all.Go(func() {
			for i, want := range slices.Backward(told) {
				if got := ask(i); got != want {
					t.Errorf("the %dth: %s, and was %s", i, got, want)
				}
			}
		})
	}
	all.Wait()
}
