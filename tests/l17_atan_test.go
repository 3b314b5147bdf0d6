package tests

import (
	"math/big"
	"slices"
	"testing"

	"loop.example/g00481/impl"
)

// Promise 17: opposite points are half a turn from each other.

func pointPair(y int, x int, turns bool, p int) (pair, int) {
	if y == 0 && x == 0 {
		return pair{}, impl.EnLess
	}
	q := p + 16
	high, far := new(big.Int).Abs(bigInt(y)), new(big.Int).Abs(bigInt(x))
	a, b := high, far
	if a.Cmp(b) > 0 {
		a, b = b, a
	}
	twice := new(big.Int).Lsh(a, 1)
	var angle pair
	if twice.Cmp(b) <= 0 {
		angle = atanPair(fracPair(new(big.Int).Lsh(a, uint(q)), b), q)
	} else {
		top := new(big.Int).Sub(twice, b)
		bottom := new(big.Int).Add(new(big.Int).Lsh(b, 1), a)
		angle = sumPair(2, q).plus(atanPair(fracPair(top.Lsh(top, uint(q)), bottom), q))
	}
	if high.Cmp(far) > 0 {
		angle = halfPiPair(q).minus(angle)
	}
	if x < 0 {
		angle = piPair(q).minus(angle)
	}
	if y < 0 {
		angle = angle.negative()
	}
	if turns {
		angle = angle.div(piPair(q).times(2), q)
	}
	return angle.moved(q, p), impl.EnOk
}

func checkAngle(t *testing.T, y int, x int, turns bool, p int) {
	t.Helper()
	want, code := pointPair(y, x, turns, p)
	got, how := impl.AngleIv(y, x, turns, p)
	codedPair(t, "AngleIv", got, how, want, code)
	if how != impl.EnOk {
		return
	}
	angle := trueAngle(y, x)
	if turns {
		angle = eighths(quotientOf(angle, scaled(truePi(), 1)))
	}
	checkTrue(t, "AngleIv", got, p, angle, 2)
}

// A part of a turn may be whole eighths; what is off by less than 2^-700 is that.
func eighths(a *big.Float) *big.Float {
	for n := -4; n <= 4; n++ {
		eighth := scaled(exactly(n), -3)
		if off := lessOf(a, eighth); off.Sign() == 0 || off.MantExp(nil) < -700 {
			return eighth
		}
	}
	return a
}

func TestAnglesOfSmallPoints(t *testing.T) {
	t.Parallel()
	for y := -6; y <= 6; y++ {
		for x := -6; x <= 6; x++ {
			for _, turns := range bothWays {
				for _, p := range []int{1, 2, 30, 61, 300} {
					checkAngle(t, y, x, turns, p)
				}
			}
		}
	}
}

func TestAnglesOfPoints(t *testing.T) {
	t.Parallel()
	m := &mixer{state: 16180339}
	args := someArgs(m)
	for _, turns := range bothWays {
		for _, y := range args {
			for range 4 {
				checkAngle(t, y, args[m.below(len(args))], turns, someEncs[m.below(len(someEncs))])
			}
		}
	}
}

func TestAnglesAtEachPlace(t *testing.T) {
	t.Parallel()
	for p := 1; p <= 300; p++ {
		for _, turns := range bothWays {
			checkAngle(t, 2, 1, turns, p)
			checkAngle(t, 2, -1, turns, p)
			checkAngle(t, 4, -3, turns, p)
			checkAngle(t, -mostArg, 1-mostArg, turns, p)
		}
	}
}

// 2a of b, just below and just above it, in every eighth; and both of one size, and beside it.
func TestAnglesAboutTheHalf(t *testing.T) {
	t.Parallel()
	signs := []int{1, -1}
	for _, b := range []int{1, 2, 10, 1 << 30, 1<<40 + 2, mostArg - 2, mostArg} {
		for _, a := range []int{b/2 - 1, b / 2, b/2 + 1, b - 1, b} {
			if a < 0 {
				continue
			}
			for _, s := range signs {
				for _, r := range signs {
					for _, p := range []int{1, 40, 300} {
						checkAngle(t, s*a, r*b, false, p)
						checkAngle(t, s*b, r*a, false, p)
						checkAngle(t, s*a, r*b, true, p)
						checkAngle(t, s*b, r*a, true, p)
					}
				}
			}
		}
	}
}

// Each half of each axis, and the points beside it.
func TestAnglesOnTheAxes(t *testing.T) {
	for _, far := range []int{1, 2, 1000, 1 << 40, mostArg} {
		for d := -1; d <= 1; d++ {
			for _, turns := range bothWays {
				for _, p := range []int{1, 60, 70, 300} {
					checkAngle(t, d, far, turns, p)
					checkAngle(t, d, -far, turns, p)
					checkAngle(t, far, d, turns, p)
					checkAngle(t, -far, d, turns, p)
				}
			}
		}
	}
}

func TestAnglesNamedOnes(t *testing.T) {
	cases := []struct {
		y, x      int
		turns     bool
		p, lo, hi int
	}{
		{0, 1, false, 20, -1, 1}, {0, mostArg, true, 20, -1, 1}, {1, 0, false, 4, 25, 26}, {-1, 0, false, 4, -26, -25}, {0, -1, false, 4, 50, 51}, {0, -mostArg, false, 30, 3373259426, 3373259427},
		{1, 1, false, 4, 12, 13}, {1, -1, false, 4, 37, 38}, {-1, 1, false, 4, -13, -12}, {-1, -1, false, 4, -38, -37}, {1, mostArg, false, 20, -1, 1}, {-1, -mostArg, false, 4, -51, -50}, {1, -mostArg, false, 4, 50, 51},
		{2, 1, false, 30, 1188791883, 1188791884}, {4, -3, false, 30, 2377583767, 2377583768}, {-1, 3, false, 30, -345477028, -345477027},
		{1, -1, true, 30, 402653183, 402653185}, {1, 0, true, 10, 255, 257}, {-1, 0, true, 10, -257, -255}, {0, -1, true, 10, 511, 513}, {-1, -1, true, 10, -385, -383}, {1, 1, true, 1, 0, 1}, {2, 1, true, 10, 180, 181},
	}
	for _, c := range cases {
		got, how := impl.AngleIv(c.y, c.x, c.turns, c.p)
		codedPair(t, "AngleIv", got, how, pairOf(smallIv(c.lo, c.hi)), impl.EnOk)
	}
	for _, turns := range bothWays {
		for _, p := range []int{1, 30, 300} {
			got, how := impl.AngleIv(0, 0, turns, p)
			refusedCode(t, "AngleIv of nowhere", got, how, impl.EnLess)
		}
	}
}

func TestOppositePoints(t *testing.T) {
	m := &mixer{state: 86420}
	args := someArgs(m)
	for range 400 {
		y, x := args[m.below(len(args))], args[m.below(len(args))]
		if y < 0 || y == 0 && x < 0 {
			y, x = -y, -x
		}
		if y == 0 {
			continue
		}
		p := 1 + m.below(300)
		first, _ := impl.AngleIv(y, x, false, p)
		second, _ := impl.AngleIv(-y, -x, false, p)
		between, ok := impl.IvSub(first, second)
		if !ok {
			t.Fatalf("no difference of (%d, %d)", x, y)
		}
		checkTrue(t, "from a point to its opposite", between, p, truePi(), 4)
		pi, _ := impl.Pi(p)
		if !impl.IvMeet(between, pi) {
			t.Fatalf("(%d, %d) and its opposite at %d: %v", x, y, p, between)
		}
		first, _ = impl.AngleIv(y, x, true, p)
		second, _ = impl.AngleIv(-y, -x, true, p)
		between, _ = impl.IvSub(first, second)
		checkTrue(t, "from a point to its opposite, in turns", between, p, scaled(exactly(1), -1), 4)
	}
	// On the axis there is no point below it.
	for _, x := range []int{1, mostArg} {
		first, _ := impl.AngleIv(0, -x, true, 50)
		second, _ := impl.AngleIv(0, x, true, 50)
		between, _ := impl.IvSub(first, second)
		checkTrue(t, "from one half of the axis to the other", between, 50, scaled(exactly(1), -1), 4)
	}
}

// What is mirrored at the axis has the negative angle.
func TestMirroredPoints(t *testing.T) {
	m := &mixer{state: 97531}
	args := someArgs(m)
	for range 300 {
		y, x := args[m.below(len(args))], args[m.below(len(args))]
		if y == 0 {
			continue
		}
		turns, p := m.below(2) == 0, 1+m.below(300)
		first, _ := impl.AngleIv(y, x, turns, p)
		second, _ := impl.AngleIv(-y, x, turns, p)
		if !sameIv(second, impl.IvNeg(first)) {
			t.Fatalf("(%d, %d) and its mirror at %d: %v and %v", x, y, p, first, second)
		}
	}
}

func TestAtanIsTheAngleOfAPoint(t *testing.T) {
	m := &mixer{state: 13579}
	for _, turns := range bothWays {
		for f := 0; f <= 60; f++ {
			for _, v := range someArgs(m)[:24] {
				p := someEncs[m.below(len(someEncs))]
				want, code := pointPair(v, 1<<f, turns, p)
				got, how := impl.AtanIv(v, f, turns, p)
				codedPair(t, "AtanIv", got, how, want, code)
				other, too := impl.AngleIv(v, 1<<f, turns, p)
				if how != too || !sameIv(got, other) {
					t.Fatalf("AtanIv(%d, %d, %v, %d) is not the angle of its point", v, f, turns, p)
				}
			}
		}
	}
	got, how := impl.AtanIv(0, 0, false, 20)
	codedPair(t, "AtanIv of 0", got, how, pairOf(smallIv(-1, 1)), impl.EnOk)
	got, how = impl.AtanIv(1<<60, 60, false, 4)
	codedPair(t, "AtanIv of 1", got, how, pairOf(smallIv(12, 13)), impl.EnOk)
}

func TestAnglesOfMoreBits(t *testing.T) {
	for _, turns := range bothWays {
		for _, c := range [][2]int{{1, 7}, {7, 1}, {-3, -4}, {12345, -1}, {5, 0}, {0, -5}} {
			for i, q := range someEncs {
				for _, p := range someEncs[:i] {
					more, _ := impl.AngleIv(c[0], c[1], turns, q)
					less, _ := impl.AngleIv(c[0], c[1], turns, p)
					checkMeets(t, "AngleIv", more, q, less, p)
				}
			}
		}
	}
}

func TestAnglesRefuse(t *testing.T) {
	for _, turns := range bothWays {
		checkWordBounds(t, "AtanIv", func(v int, f int, p int) (impl.Iv, int) { return impl.AtanIv(v, f, turns, p) }, []int{-mostArg, -1, 0, 1, mostArg})
		for _, y := range slices.Concat(noArgs, []int{-mostArg, 0, 1, mostArg}) {
			for _, x := range slices.Concat(noArgs, []int{-mostArg, 0, 1, mostArg}) {
				for _, p := range slices.Concat(noEncs, []int{1, 300}) {
					got, how := impl.AngleIv(y, x, turns, p)
					switch {
					case slices.Contains(noArgs, y) || slices.Contains(noArgs, x) || slices.Contains(noEncs, p):
						refusedCode(t, "AngleIv out of bounds", got, how, impl.EnBad)
					case y == 0 && x == 0:
						refusedCode(t, "AngleIv of nowhere", got, how, impl.EnLess)
					case how != impl.EnOk || !impl.IvOk(got):
						t.Errorf("AngleIv(%d, %d, %v, %d): %v, %d", y, x, turns, p, got, how)
					}
				}
			}
		}
	}
}

// Promise 29: every function answers at any arguments; what was answered once is answered again.

func TestAnglesAnswerAtAnything(t *testing.T) {
	for _, turns := range bothWays {
		atan := func(v int, f int, p int) (impl.Iv, int) { return impl.AtanIv(v, f, turns, p) }
		// The second number stands for x here.
		angle := func(y int, x int, p int) (impl.Iv, int) { return impl.AngleIv(y, x, turns, p) }
		back := func(x int, y int, p int) (impl.Iv, int) { return impl.AngleIv(y, x, turns, p) }
		for name, do := range map[string]func(int, int, int) (impl.Iv, int){"AtanIv": atan, "AngleIv": angle, "AngleIv of x and y": back} {
			checkAnswersAtAnything(t, name, do)
			checkAnsweredAgain(t, name, do)
		}
	}
}
