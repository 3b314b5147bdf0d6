package tests

import (
	"math/big"
	"testing"

	"loop.example/g00481/impl"
)

// Promise 18: the square of the hyperbolic cosine less that of the sine is 1.

func sinhPair(v int, f int, p int) (pair, int) {
	power, code := powerPair(v, f, p+2)
	if code != impl.EnOk {
		return pair{}, impl.EnGreat
	}
	inverse, code := powerPair(-v, f, p+2)
	if code != impl.EnOk {
		return pair{}, impl.EnLess
	}
	return power.minus(inverse).moved(p+2, p-1), impl.EnOk
}

func coshPair(v int, f int, p int) (pair, int) {
	power, code := powerPair(v, f, p+2)
	inverse, other := powerPair(-v, f, p+2)
	if code != impl.EnOk || other != impl.EnOk {
		return pair{}, impl.EnGreat
	}
	half := power.plus(inverse).moved(p+2, p-1)
	return pair{maxOf(half.lo, near(p, 0)), half.hi}, impl.EnOk
}

func tanhPair(v int, f int, p int) (pair, int) {
	u := max(v, -v)
	inverse, _ := powerPair(-2*u, f, p+16)
	one := onePair(near(p+16, 0))
	tangent := one.minus(inverse).div(one.plus(inverse), p+16).moved(p+16, p)
	tangent = pair{tangent.lo, tangent.atMost(near(p, 0)).hi}
	if v < 0 {
		tangent = tangent.negative()
	}
	return tangent, impl.EnOk
}

func atanhWordPair(v int, f int, p int) (pair, int) {
	switch {
	case v <= -1<<f:
		return pair{}, impl.EnLess
	case v >= 1<<f:
		return pair{}, impl.EnGreat
	}
	above, _ := logPair(1<<f+v, f, p+2)
	below, _ := logPair(1<<f-v, f, p+2)
	return above.minus(below).moved(p+2, p-1), impl.EnOk
}

// The true powers of x and of -x; what is too small for any place is not reckoned.
func truePowers(v int, f int) (*big.Float, *big.Float) {
	power, inverse := trueExpOfWord(-max(v, -v), f), exactly(0)
	inverse = quotientOf(exactly(1), power)
	if v > 0 {
		power, inverse = inverse, power
	}
	return power, inverse
}

func checkSinhAndCosh(t *testing.T, v int, f int, p int) {
	t.Helper()
	want, code := sinhPair(v, f, p)
	sine, how := impl.SinhIv(v, f, p)
	codedPair(t, "SinhIv", sine, how, want, code)
	want, code = coshPair(v, f, p)
	cosine, too := impl.CoshIv(v, f, p)
	codedPair(t, "CoshIv", cosine, too, want, code)
	if how != impl.EnOk {
		return
	}
	power, inverse := truePowers(v, f)
	checkTrue(t, "SinhIv", sine, p, scaled(lessOf(power, inverse), -1), 2)
	checkTrue(t, "CoshIv", cosine, p, scaled(sumOf(power, inverse), -1), 2)
	checkHyperbolicSquares(t, sine, cosine, p)
}

func checkHyperbolicSquares(t *testing.T, sine impl.Iv, cosine impl.Iv, p int) {
	t.Helper()
	first, ok := impl.IvMul(cosine, cosine, p)
	second, fine := impl.IvMul(sine, sine, p)
	rest, fits := impl.IvSub(first, second)
	if !ok || !fine || !fits {
		t.Fatalf("no squares of %v and %v at %d", sine, cosine, p)
	}
	checkBetween(t, "the square of the cosine less that of the sine", rest, p, exactly(1))
	// Each end is off by less than two, and a square by so many times its root.
	lo, hi := endsOf(rest)
	most := new(big.Int).Rsh(bigOfWhole(cosine.Hi), uint(p))
	most.Add(most, big.NewInt(1)).Mul(most, big.NewInt(24))
	if hi.Sub(hi, lo).Cmp(most) > 0 {
		t.Fatalf("the square of the cosine less that of the sine at %d is %v wide", p, hi)
	}
}

func checkTanh(t *testing.T, v int, f int, p int) {
	t.Helper()
	want, code := tanhPair(v, f, p)
	got, how := impl.TanhIv(v, f, p)
	codedPair(t, "TanhIv", got, how, want, code)
	power, inverse := truePowers(v, f)
	checkTrue(t, "TanhIv", got, p, quotientOf(lessOf(power, inverse), sumOf(power, inverse)), 2)
	if hi := bigOfWhole(got.Hi); hi.CmpAbs(near(p, 0)) > 0 {
		t.Fatalf("the hyperbolic tangent of %d by 2^%d at %d is above 1", v, f, p)
	}
}

func checkAtanhOfWord(t *testing.T, v int, f int, p int) {
	t.Helper()
	want, code := atanhWordPair(v, f, p)
	got, how := impl.AtanhIv(v, f, p)
	codedPair(t, "AtanhIv", got, how, want, code)
	if how == impl.EnOk {
		checkTrue(t, "AtanhIv", got, p, trueAtanh(wordValue(v, f)), 2)
	}
}

func checkHyperbolic(t *testing.T, v int, f int, p int) {
	t.Helper()
	checkSinhAndCosh(t, v, f, p)
	checkTanh(t, v, f, p)
	checkAtanhOfWord(t, v, f, p)
}

func TestHyperbolicOfWords(t *testing.T) {
	t.Parallel()
	m := &mixer{state: 1618033}
	for _, f := range somePoints {
		for _, v := range someArgs(m) {
			checkHyperbolic(t, v, f, someEncs[m.below(len(someEncs))])
		}
	}
}

func TestHyperbolicAtEachPlace(t *testing.T) {
	t.Parallel()
	for p := 1; p <= 300; p++ {
		for _, v := range []int{0, 1, -3, 100} {
			checkSinhAndCosh(t, v, 1, p)
			checkTanh(t, v, 1, p)
		}
		checkAtanhOfWord(t, 1, 1, p)
		checkAtanhOfWord(t, -5, 3, p)
	}
}

// 64 and -64, and just beyond each: what is too great.
func TestHyperbolicOfWhatIsTooGreat(t *testing.T) {
	for _, f := range []int{0, 1, 10, 54} {
		for _, p := range []int{1, 30, 300} {
			for d := -1; d <= 1; d++ {
				checkSinhAndCosh(t, 64<<f+d, f, p)
				checkSinhAndCosh(t, -(64<<f)+d, f, p)
			}
			got, how := impl.SinhIv(64<<f+1, f, p)
			refusedCode(t, "SinhIv above 64", got, how, impl.EnGreat)
			got, how = impl.SinhIv(-(64<<f)-1, f, p)
			refusedCode(t, "SinhIv below -64", got, how, impl.EnLess)
			got, how = impl.CoshIv(64<<f+1, f, p)
			refusedCode(t, "CoshIv above 64", got, how, impl.EnGreat)
			got, how = impl.CoshIv(-(64<<f)-1, f, p)
			refusedCode(t, "CoshIv below -64", got, how, impl.EnGreat)
			for _, v := range []int{64 << f, -(64 << f)} {
				if _, how := impl.SinhIv(v, f, p); how != impl.EnOk {
					t.Errorf("SinhIv(%d, %d, %d): %d", v, f, p, how)
				}
				if _, how := impl.CoshIv(v, f, p); how != impl.EnOk {
					t.Errorf("CoshIv(%d, %d, %d): %d", v, f, p, how)
				}
			}
		}
	}
	for _, v := range []int{401, 500, mostArg} {
		got, how := impl.SinhIv(v, 0, 20)
		refusedCode(t, "SinhIv far above", got, how, impl.EnGreat)
		got, how = impl.SinhIv(-v, 0, 20)
		refusedCode(t, "SinhIv far below", got, how, impl.EnLess)
		got, how = impl.CoshIv(-v, 0, 20)
		refusedCode(t, "CoshIv far below", got, how, impl.EnGreat)
	}
}

// Beyond 200 the power is not reckoned any more; the tangent is 1 then, less at most a step.
func TestHyperbolicTangentsFarOff(t *testing.T) {
	for _, f := range []int{0, 1, 20, 53} {
		for _, p := range []int{1, 20, 299, 300} {
			for d := -1; d <= 1; d++ {
				checkTanh(t, 200<<f+d, f, p)
				checkTanh(t, -(200<<f)+d, f, p)
			}
		}
	}
	for _, v := range []int{201, 500, 1 << 30, 1 << 60, 1<<60 + 1, mostArg - 1, mostArg} {
		for _, p := range []int{1, 20, 300} {
			got, how := impl.TanhIv(v, 0, p)
			codedPair(t, "TanhIv far off", got, how, pair{near(p, -1), near(p, 0)}, impl.EnOk)
			got, how = impl.TanhIv(-v, 0, p)
			codedPair(t, "TanhIv far below", got, how, pair{negativeOf(near(p, 0)), negativeOf(near(p, -1))}, impl.EnOk)
		}
	}
	// Twice the greatest word is beyond MaxArg, and yet reckoned.
	for _, f := range []int{56, 58, 59, 60} {
		for _, v := range []int{1 << 60, 1<<60 + 1, mostArg - 1, mostArg} {
			for _, p := range []int{1, 64, 300} {
				checkTanh(t, v, f, p)
				checkTanh(t, -v, f, p)
			}
		}
	}
}

// 1 and -1, and one less of each size.
func TestHyperbolicAnglesAboutOne(t *testing.T) {
	t.Parallel()
	for f := 0; f <= 60; f++ {
		one := 1 << f
		for _, p := range []int{1, 61, 300} {
			for d := -1; d <= 1; d++ {
				checkAtanhOfWord(t, one+d, f, p)
				checkAtanhOfWord(t, -one+d, f, p)
				checkAtanhOfWord(t, d, f, p)
			}
			for _, v := range []int{one, one + 1, mostArg} {
				got, how := impl.AtanhIv(v, f, p)
				refusedCode(t, "AtanhIv from 1 on", got, how, impl.EnGreat)
				got, how = impl.AtanhIv(-v, f, p)
				refusedCode(t, "AtanhIv to -1", got, how, impl.EnLess)
			}
			for _, v := range []int{one - 1, 1 - one} {
				if got, how := impl.AtanhIv(v, f, p); how != impl.EnOk || !impl.IvOk(got) {
					t.Errorf("AtanhIv(%d, %d, %d): %d", v, f, p, how)
				}
			}
		}
	}
}

func TestHyperbolicNamedOnes(t *testing.T) {
	const one = 1 << 20
	cases := []struct {
		name            string
		do              func(int, int, int) (impl.Iv, int)
		v, f, p, lo, hi int
	}{
		{"SinhIv", impl.SinhIv, 0, 0, 20, -1, 1}, {"SinhIv", impl.SinhIv, -3, 1, 30, -2286296406, -2286296405}, {"SinhIv", impl.SinhIv, 1, 60, 1, -1, 1}, {"SinhIv", impl.SinhIv, 1, 0, 1, 2, 3},
		{"CoshIv", impl.CoshIv, 0, 0, 20, one, one + 1}, {"CoshIv", impl.CoshIv, 0, 60, 1, 2, 3}, {"CoshIv", impl.CoshIv, 1, 60, 20, one, one + 1}, {"CoshIv", impl.CoshIv, -1, 60, 1, 2, 3}, {"CoshIv", impl.CoshIv, -3, 1, 30, 2525880590, 2525880592}, {"CoshIv", impl.CoshIv, 1, 0, 1, 2, 4},
		{"TanhIv", impl.TanhIv, 0, 0, 20, -1, 1}, {"TanhIv", impl.TanhIv, -3, 1, 30, -971895537, -971895536}, {"TanhIv", impl.TanhIv, 500, 0, 20, one - 1, one}, {"TanhIv", impl.TanhIv, -500, 0, 20, -one, 1 - one}, {"TanhIv", impl.TanhIv, -30, 0, 20, -one, 1 - one}, {"TanhIv", impl.TanhIv, 1, 0, 1, 1, 2},
		{"AtanhIv", impl.AtanhIv, 0, 0, 20, -1, 1}, {"AtanhIv", impl.AtanhIv, 1, 1, 30, 589812981, 589812982}, {"AtanhIv", impl.AtanhIv, -1, 1, 30, -589812982, -589812981}, {"AtanhIv", impl.AtanhIv, 3, 2, 4, 15, 16},
	}
	for _, c := range cases {
		got, how := c.do(c.v, c.f, c.p)
		codedPair(t, c.name, got, how, pairOf(smallIv(c.lo, c.hi)), impl.EnOk)
	}
}

// Odd ones are the other way round below nought, the cosine is the same.
func TestHyperbolicBelowNought(t *testing.T) {
	t.Parallel()
	m := &mixer{state: 24681357}
	for range 300 {
		f, p := m.below(61), 1+m.below(300)
		v := m.below(min(64<<min(f, 54), mostArg))
		for name, do := range map[string]func(int, int, int) (impl.Iv, int){"SinhIv": impl.SinhIv, "TanhIv": impl.TanhIv, "AtanhIv": impl.AtanhIv} {
			above, how := do(v, f, p)
			below, too := do(-v, f, p)
			if (how == impl.EnOk) != (too == impl.EnOk) || !sameIv(below, impl.IvNeg(above)) {
				t.Fatalf("%s of %d by 2^%d and its negative at %d: %v and %v", name, v, f, p, above, below)
			}
		}
		above, _ := impl.CoshIv(v, f, p)
		below, _ := impl.CoshIv(-v, f, p)
		if !sameIv(above, below) {
			t.Fatalf("CoshIv of %d by 2^%d and its negative at %d: %v and %v", v, f, p, above, below)
		}
	}
}

func TestHyperbolicOfMoreBits(t *testing.T) {
	t.Parallel()
	for name, do := range hyperbolicFaces() {
		for _, v := range []int{0, 1, -3, 12345, -32767} {
			for i, q := range someEncs {
				for _, p := range someEncs[:i] {
					more, _ := do(v, 15, q)
					less, _ := do(v, 15, p)
					checkMeets(t, name, more, q, less, p)
				}
			}
		}
	}
}

func hyperbolicFaces() map[string]func(int, int, int) (impl.Iv, int) {
	return map[string]func(int, int, int) (impl.Iv, int){"SinhIv": impl.SinhIv, "CoshIv": impl.CoshIv, "TanhIv": impl.TanhIv, "AtanhIv": impl.AtanhIv}
}

func TestHyperbolicRefuse(t *testing.T) {
	for name, do := range hyperbolicFaces() {
		checkWordBounds(t, name, do, []int{-mostArg, -1, 0, 1, mostArg})
	}
}

// Promise 29: every function answers at any arguments; what was answered once is answered again.

func TestHyperbolicAnswerAtAnything(t *testing.T) {
	for name, do := range hyperbolicFaces() {
		checkAnswersAtAnything(t, name, do)
		checkAnsweredAgain(t, name, do)
	}
}
