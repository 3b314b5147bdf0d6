package tests

import (
	"math/big"
	"slices"
	"testing"

	"loop.example/g00481/impl"
)

// Promise 16: of any word the squares of sine and cosine together are 1; a quarter of a turn turns one into the other.

var bothWays = []bool{false, true}

func quarterPair(v int, f int, turns bool, p int) (int, pair) {
	u := new(big.Int).Abs(bigInt(v))
	four := big.NewInt(4)
	if turns {
		top := new(big.Int).Add(new(big.Int).Lsh(u, 3), near(f, 0))
		n := floorOf(top, near(f+1, 0))
		left := new(big.Int).Sub(new(big.Int).Lsh(u, 2), new(big.Int).Lsh(n, uint(f)))
		rest := halfPiPair(p+16).often(left).moved(f, 0).moved(p+16, p)
		return int(new(big.Int).Mod(n, four).Int64()), rest
	}
	w := p + 116
	x := new(big.Int).Lsh(u, uint(w-f))
	half := halfPiPair(w)
	n := floorOf(new(big.Int).Add(new(big.Int).Lsh(x, 1), half.lo), new(big.Int).Lsh(half.lo, 1))
	rest := onePair(x).minus(half.often(n)).moved(w, p)
	return int(new(big.Int).Mod(n, four).Int64()), rest
}

func wavePair(v int, f int, turns bool, p int) (pair, pair) {
	q := p + 16
	n, rest := quarterPair(v, f, turns, q)
	s, c := sinPair(rest, q), cosPair(rest, q)
	sine, cosine := s, c
	switch n {
	case 1:
		sine, cosine = c, s.negative()
	case 2:
		sine, cosine = s.negative(), c.negative()
	case 3:
		sine, cosine = c.negative(), s
	}
	if v < 0 {
		sine = sine.negative()
	}
	bound := func(a pair) pair {
		return a.moved(q, p).atLeast(negativeOf(near(p, 0))).atMost(near(p, 0))
	}
	return bound(sine), bound(cosine)
}

func tanPair(v int, f int, turns bool, p int) (pair, int) {
	q := p + 16
	sine, cosine := wavePair(v, f, turns, q)
	if cosine.lo.Sign() <= 0 && cosine.hi.Sign() >= 0 {
		return pair{}, impl.EnWide
	}
	if cosine.hi.Sign() < 0 {
		sine, cosine = sine.negative(), cosine.negative()
	}
	return sine.div(cosine, q).moved(q, p), impl.EnOk
}

func angleValue(v int, f int, turns bool) *big.Float {
	if turns {
		return productOf(wordValue(v, f), scaled(truePi(), 1))
	}
	return wordValue(v, f)
}

func checkQuarter(t *testing.T, v int, f int, turns bool, p int) {
	t.Helper()
	want, rest := quarterPair(v, f, turns, p)
	n, got, how := impl.Quarter(v, f, turns, p)
	codedPair(t, "Quarter", got, how, rest, impl.EnOk)
	if n != want {
		t.Fatalf("Quarter of %d by 2^%d (%v) at %d: %d, want %d", v, f, turns, p, n, want)
	}
	// The true rest: with the nearest quarters taken away, which at a half of one may be those on either side.
	half := scaled(truePi(), -1)
	size := angleValue(v, f, turns)
	size.Abs(size)
	count, _ := sumOf(quotientOf(size, half), scaled(exactly(1), -1)).Int(nil)
	if int(new(big.Int).Mod(count, big.NewInt(4)).Int64()) != n {
		count.Add(count, big.NewInt(1))
	}
	left := lessOf(size, productOf(realOf(count), half))
	checkTrue(t, "Quarter", got, p, left, 2)
	if left.Cmp(scaled(half, -1)) > 0 || sumOf(left, scaled(exactly(1), -600)).Cmp(oppositeOf(scaled(half, -1))) < 0 {
		t.Fatalf("Quarter of %d by 2^%d (%v): another quarter is nearer than %d", v, f, turns, n)
	}
}

func checkWave(t *testing.T, v int, f int, turns bool, p int) {
	t.Helper()
	first, second := wavePair(v, f, turns, p)
	sine, cosine, how := impl.SinCosIv(v, f, turns, p)
	codedPair(t, "SinCosIv's sine", sine, how, first, impl.EnOk)
	codedPair(t, "SinCosIv's cosine", cosine, how, second, impl.EnOk)
	s, c := trueWave(angleValue(v, f, turns))
	if turns {
		s, c = whole(s), whole(c)
	}
	checkTrue(t, "SinCosIv's sine", sine, p, s, 2)
	checkTrue(t, "SinCosIv's cosine", cosine, p, c, 2)
	checkSquares(t, v, f, turns, p, sine, cosine)
	want, code := tanPair(v, f, turns, p)
	tangent, how := impl.TanIv(v, f, turns, p)
	codedPair(t, "TanIv", tangent, how, want, code)
	if how == impl.EnOk {
		checkBetween(t, "TanIv", tangent, p, quotientOf(s, c))
	}
}

// A part of a turn may have a sine that is whole; what is off by less than 2^-700 is that.
func whole(a *big.Float) *big.Float {
	for n := -1; n <= 1; n++ {
		if off := lessOf(a, exactly(n)); off.Sign() == 0 || off.MantExp(nil) < -700 {
			return exactly(n)
		}
	}
	return a
}

func checkSquares(t *testing.T, v int, f int, turns bool, p int, sine impl.Iv, cosine impl.Iv) {
	t.Helper()
	first, ok := impl.IvMul(sine, sine, p)
	second, fine := impl.IvMul(cosine, cosine, p)
	sum, fits := impl.IvAdd(first, second)
	if !ok || !fine || !fits {
		t.Fatalf("no squares of %d by 2^%d (%v) at %d", v, f, turns, p)
	}
	checkTrue(t, "the squares together", sum, p, exactly(1), 12)
}

func TestSinesOfWords(t *testing.T) {
	t.Parallel()
	m := &mixer{state: 31415926}
	for _, turns := range bothWays {
		for _, f := range somePoints {
			for _, v := range someArgs(m) {
				p := someEncs[m.below(len(someEncs))]
				checkQuarter(t, v, f, turns, p)
				checkWave(t, v, f, turns, p)
			}
		}
	}
}

func TestSinesAtEachPlace(t *testing.T) {
	t.Parallel()
	for p := 1; p <= 300; p++ {
		for _, turns := range bothWays {
			for _, v := range []int{0, 1, -10, 355, mostArg} {
				checkQuarter(t, v, 5, turns, p)
				checkWave(t, v, 5, turns, p)
			}
		}
	}
}

// All sixteenths of some turns, and what lies beside them.
func TestSinesOfPartsOfATurn(t *testing.T) {
	t.Parallel()
	for sixteenths := -40; sixteenths <= 40; sixteenths++ {
		for _, f := range []int{4, 5, 24, 54} {
			for d := -1; d <= 1; d++ {
				v := sixteenths<<(f-4) + d
				for _, p := range []int{1, 40, 300} {
					checkQuarter(t, v, f, true, p)
					checkWave(t, v, f, true, p)
				}
			}
		}
	}
}

// The words on both sides of each eighth of a turn, near nought and far from it.
func TestSinesOfAnglesAboutEighths(t *testing.T) {
	t.Parallel()
	eighth := scaled(truePi(), -2)
	m := &mixer{state: 27182818}
	for _, f := range []int{0, 1, 24, 56, 60} {
		counts := []int{1, 2, 3, 4, 5, 6, 7, 8, 9, 16, 17}
		for range 4 {
			counts = append(counts, m.below(1<<61>>f))
		}
		for _, count := range counts {
			at, _ := scaled(productOf(exactly(count), eighth), f).Int(nil)
			if !at.IsInt64() || at.Int64() >= mostArg {
				continue
			}
			for d := range 2 {
				v := int(at.Int64()) + d
				for _, p := range []int{1, 20, 300} {
					checkQuarter(t, v, f, false, p)
					checkQuarter(t, -v, f, false, p)
					checkWave(t, v, f, false, p)
					checkWave(t, -v, f, false, p)
				}
			}
		}
	}
}

func TestQuarterNamedOnes(t *testing.T) {
	cases := []struct {
		v, f         int
		turns        bool
		p, n, lo, hi int
	}{
		{0, 0, false, 30, 0, 0, 0}, {0, 0, true, 30, 0, 0, 0}, {0, 60, true, 1, 0, 0, 0},
		{10, 0, false, 30, 2, 617639961, 617639962}, {-10, 0, false, 30, 2, 617639961, 617639962},
		{1, 0, true, 30, 0, 0, 0}, {5, 0, true, 30, 0, 0, 0}, {1, 1, true, 30, 2, 0, 0}, {1, 2, true, 30, 1, 0, 0}, {3, 2, true, 30, 3, 0, 0}, {-3, 2, true, 30, 3, 0, 0}, {-1, 2, true, 30, 1, 0, 0},
		// At an eighth the greater quarter is taken, and pi by 4 is left below nought.
		{1, 3, true, 4, 1, -13, -12}, {-1, 3, true, 4, 1, -13, -12}, {3, 3, true, 4, 2, -13, -12}, {5, 3, true, 4, 3, -13, -12}, {7, 3, true, 4, 0, -13, -12},
		{1, 4, true, 4, 0, 6, 7}, {3, 4, true, 4, 1, -7, -6}, {15, 4, true, 4, 0, -7, -6},
		{1, 1, false, 4, 0, 8, 8}, {1, 0, false, 4, 1, -10, -9}, {3, 2, false, 4, 0, 12, 12}, {7, 3, false, 4, 1, -12, -11}, {2, 0, false, 4, 1, 6, 7}, {3, 0, false, 4, 2, -3, -2}, {5, 0, false, 4, 3, 4, 5}, {6, 0, false, 4, 0, -5, -4},
	}
	for _, c := range cases {
		n, got, how := impl.Quarter(c.v, c.f, c.turns, c.p)
		codedPair(t, "Quarter", got, how, pairOf(smallIv(c.lo, c.hi)), impl.EnOk)
		if n != c.n {
			t.Errorf("Quarter(%d, %d, %v, %d): %d", c.v, c.f, c.turns, c.p, n)
		}
	}
}

// Ends at -1 and 1: nothing beyond them is told.
func TestSinesNamedOnes(t *testing.T) {
	const one = 1 << 20
	cases := []struct {
		v, f      int
		turns     bool
		p         int
		low, high int
		lo, hi    int
	}{
		{0, 0, false, 20, -1, 1, one - 1, one}, {0, 0, true, 20, -1, 1, one - 1, one}, {1, 2, true, 20, one - 1, one, -1, 1}, {1, 1, true, 20, -1, 1, -one, 1 - one}, {3, 2, true, 20, -one, 1 - one, -1, 1},
		{-1, 2, true, 20, -one, 1 - one, -1, 1}, {-1, 1, true, 20, -1, 1, -one, 1 - one}, {-3, 2, true, 20, one - 1, one, -1, 1}, {5, 2, true, 20, one - 1, one, -1, 1},
		{1, 60, false, 1, -1, 1, 1, 2}, {-1, 60, false, 1, -1, 1, 1, 2}, {1, 0, false, 1, 1, 2, 1, 2}, {2, 0, false, 1, 1, 2, -1, 0}, {-2, 0, false, 1, -2, -1, -1, 0}, {4, 0, false, 1, -2, -1, -2, -1},
		{-10, 0, false, 30, 584138219, 584138220, -900946195, -900946194}, {3, 3, true, 30, 759250124, 759250125, -759250125, -759250124},
	}
	for _, c := range cases {
		sine, cosine, how := impl.SinCosIv(c.v, c.f, c.turns, c.p)
		codedPair(t, "the sine", sine, how, pairOf(smallIv(c.low, c.high)), impl.EnOk)
		codedPair(t, "the cosine", cosine, how, pairOf(smallIv(c.lo, c.hi)), impl.EnOk)
	}
}

func TestTangentsNamedOnes(t *testing.T) {
	for _, c := range []struct {
		v, f      int
		turns     bool
		p, lo, hi int
	}{
		{0, 0, false, 20, -1, 1}, {0, 0, true, 20, -1, 1}, {1, 0, false, 30, 1672253810, 1672253811}, {-1, 0, false, 30, -1672253811, -1672253810}, {2, 0, false, 4, -35, -34}, {-2, 0, false, 4, 34, 35},
		{1, 3, true, 20, 1<<20 - 1, 1<<20 + 1}, {3, 3, true, 20, -1<<20 - 1, -1<<20 + 1}, {-1, 3, true, 20, -1<<20 - 1, -1<<20 + 1}, {1, 1, true, 20, -1, 1}, {1, 4, true, 10, 424, 425},
	} {
		got, how := impl.TanIv(c.v, c.f, c.turns, c.p)
		codedPair(t, "TanIv", got, how, pairOf(smallIv(c.lo, c.hi)), impl.EnOk)
	}
	// Where the cosine is 0, and where it is nearer to it than can be told.
	for _, v := range []int{1, 3, 5, -1, -3, mostArg - 1} {
		for _, p := range []int{1, 30, 300} {
			got, how := impl.TanIv(v, 2, true, p)
			refusedCode(t, "TanIv at a quarter", got, how, impl.EnWide)
		}
	}
	half, _ := scaled(truePi(), 59).Int(nil)
	for d := range 2 {
		v := int(half.Int64()) + d
		got, how := impl.TanIv(v, 60, false, 10)
		refusedCode(t, "TanIv nearly at a quarter", got, how, impl.EnWide)
		got, how = impl.TanIv(v, 60, false, 300)
		want, _ := tanPair(v, 60, false, 300)
		codedPair(t, "TanIv nearly at a quarter", got, how, want, impl.EnOk)
	}
}

// The least p at which a cosine is told from 0; one bit less is EnWide.
func TestTangentsWhereTheCosineIsNearlyNought(t *testing.T) {
	t.Parallel()
	told := 0
	for k := 1; k <= 60; k++ {
		v := 1<<58 + 1<<(k-1)
		last := impl.EnWide
		for p := 1; p <= 80; p++ {
			want, code := tanPair(v, 60, true, p)
			got, how := impl.TanIv(v, 60, true, p)
			codedPair(t, "TanIv", got, how, want, code)
			if last == impl.EnWide && how == impl.EnOk {
				told++
			}
			last = how
		}
	}
	if told < 40 {
		t.Error("only", told, "of them are told from 0")
	}
}

func TestAQuarterMore(t *testing.T) {
	m := &mixer{state: 112358}
	for range 200 {
		f := 2 + m.below(59)
		v := m.below(1 << 60)
		p := 1 + m.below(300)
		sine, cosine, _ := impl.SinCosIv(v, f, true, p)
		more, less, _ := impl.SinCosIv(v+1<<(f-2), f, true, p)
		if !sameIv(more, cosine) || !sameIv(less, impl.IvNeg(sine)) {
			t.Fatalf("a quarter behind %d by 2^%d at %d: %v and %v, and were %v and %v", v, f, p, more, less, sine, cosine)
		}
		// Below nought it is the one and the other up to what is not known.
		sine, cosine, _ = impl.SinCosIv(-v, f, true, p)
		more, less, _ = impl.SinCosIv(-v+1<<(f-2), f, true, p)
		if !impl.IvMeet(more, cosine) || !impl.IvMeet(less, impl.IvNeg(sine)) {
			t.Fatalf("a quarter behind %d by 2^%d at %d: %v and %v, and were %v and %v", -v, f, p, more, less, sine, cosine)
		}
		around, same, _ := impl.SinCosIv(v%(1<<f), f, true, p)
		sine, cosine, _ = impl.SinCosIv(v, f, true, p)
		if !sameIv(around, sine) || !sameIv(same, cosine) {
			t.Fatalf("whole turns ahead of %d by 2^%d at %d", v, f, p)
		}
	}
}

func TestSinesBelowNought(t *testing.T) {
	m := &mixer{state: 60221408}
	for _, turns := range bothWays {
		for _, v := range someArgs(m) {
			f, p := m.below(61), 1+m.below(300)
			sine, cosine, _ := impl.SinCosIv(v, f, turns, p)
			other, same, _ := impl.SinCosIv(-v, f, turns, p)
			if !sameIv(other, impl.IvNeg(sine)) || !sameIv(same, cosine) {
				t.Fatalf("of %d by 2^%d and its negative at %d", v, f, p)
			}
			n, rest, _ := impl.Quarter(v, f, turns, p)
			k, left, _ := impl.Quarter(-v, f, turns, p)
			if n != k || !sameIv(rest, left) || n < 0 || n > 3 {
				t.Fatalf("the quarters of %d by 2^%d and its negative at %d", v, f, p)
			}
		}
	}
}

func TestSinesOfMoreBits(t *testing.T) {
	for _, turns := range bothWays {
		for _, v := range []int{1, 3, 100, 12345, 1<<20 - 1} {
			for i, q := range someEncs {
				for _, p := range someEncs[:i] {
					sine, cosine, _ := impl.SinCosIv(v, 15, turns, q)
					other, less, _ := impl.SinCosIv(v, 15, turns, p)
					checkMeets(t, "the sine", sine, q, other, p)
					checkMeets(t, "the cosine", cosine, q, less, p)
				}
			}
		}
	}
}

// Each of the chapter's answers as one Iv and a code.
func sineFaces(turns bool) map[string]func(v int, f int, p int) (impl.Iv, int) {
	return map[string]func(v int, f int, p int) (impl.Iv, int){
		"Quarter":  func(v int, f int, p int) (impl.Iv, int) { _, r, how := impl.Quarter(v, f, turns, p); return r, how },
		"SinCosIv": func(v int, f int, p int) (impl.Iv, int) { s, _, how := impl.SinCosIv(v, f, turns, p); return s, how },
		"CosSinIv": func(v int, f int, p int) (impl.Iv, int) { _, c, how := impl.SinCosIv(v, f, turns, p); return c, how },
		"TanIv":    func(v int, f int, p int) (impl.Iv, int) { return impl.TanIv(v, f, turns, p) },
		"QuarterOf": func(v int, f int, p int) (impl.Iv, int) {
			n, _, how := impl.Quarter(v, f, turns, p)
			return smallIv(n, n), how
		},
	}
}

func TestSinesRefuse(t *testing.T) {
	for _, turns := range bothWays {
		for name, do := range sineFaces(turns) {
			checkWordBounds(t, name, do, []int{-mostArg, -1, 0, 1, mostArg})
		}
	}
	for _, v := range slices.Concat(noArgs, []int{5}) {
		n, _, how := impl.Quarter(v, 61, true, 30)
		if n != 0 || how != impl.EnBad {
			t.Errorf("Quarter of %d at a point that is none: %d, %d", v, n, how)
		}
	}
}

// Promise 29: every function answers at any arguments; what was answered once is answered again.

func TestSinesAnswerAtAnything(t *testing.T) {
	for _, turns := range bothWays {
		for name, do := range sineFaces(turns) {
			checkAnswersAtAnything(t, name, do)
			checkAnsweredAgain(t, name, do)
		}
	}
	for _, v := range []int{0, 1, -5, 1 << 40} {
		sine, cosine, _ := impl.SinCosIv(v, 20, false, 64)
		checkApart(t, "SinCosIv", nil, endLists(sine, cosine)...)
	}
}
