package tests

import (
	"math"
	"math/big"
	"slices"
	"sync"
	"testing"

	"loop.example/g00481/impl"
)

// Promise 14: of what is small the squares of sine and cosine together are 1.

var seriesPlaces = []int{1, 2, 3, 4, 5, 8, 17, 24, 25, 30, 100, 316, 463, 464}

// One function of the chapter: the program's, the document's, the true one, and by how many bits its bound is below 2^p.
type series struct {
	name     string
	do       func(impl.Iv, int) (impl.Iv, bool)
	told     func(pair, int) pair
	value    func(*big.Float) *big.Float
	halvings int
}

func allSeries() []series {
	return []series{
		{"ExpSmall", impl.ExpSmall, expPair, trueExp, 0},
		{"SinSmall", impl.SinSmall, sinPair, func(x *big.Float) *big.Float { s, _ := trueWave(x); return s }, 0},
		{"CosSmall", impl.CosSmall, cosPair, func(x *big.Float) *big.Float { _, c := trueWave(x); return c }, 0},
		{"AtanSmall", impl.AtanSmall, atanPair, trueAtan, 1},
		{"AtanhSmall", impl.AtanhSmall, atanhPair, trueAtanh, 1},
	}
}

func trueAtanh(x *big.Float) *big.Float {
	return scaled(lessOf(trueLog(sumOf(exactly(1), x)), trueLog(lessOf(exactly(1), x))), -1)
}

func expPair(r pair, p int) pair {
	term := onePair(near(p, 0))
	sum := term
	for k := 1; !term.spent(); k++ {
		term = term.mul(r, p).share(k)
		sum = sum.plus(term)
	}
	return sum.wide(2)
}

func sinPair(r pair, p int) pair {
	term, sum, square := r, r, r.mul(r, p)
	for k := 1; !term.spent(); k++ {
		term = term.mul(square, p).share(2 * k * (2*k + 1)).negative()
		sum = sum.plus(term)
	}
	return sum.wide(2)
}

func cosPair(r pair, p int) pair {
	square := r.mul(r, p)
	term := onePair(near(p, 0))
	sum := term
	for k := 1; !term.spent(); k++ {
		term = term.mul(square, p).share(2 * k * (2*k - 1)).negative()
		sum = sum.plus(term)
	}
	return sum.wide(2)
}

func atanPair(r pair, p int) pair {
	power, sum, square := r, r, r.mul(r, p)
	for k := 1; !power.spent(); k++ {
		power = power.mul(square, p).negative()
		sum = sum.plus(power.share(2*k + 1))
	}
	return sum.wide(2)
}

func atanhPair(r pair, p int) pair {
	power, sum, square := r, r, r.mul(r, p)
	for k := 1; !power.spent(); k++ {
		power = power.mul(square, p)
		sum = sum.plus(power.share(2*k + 1))
	}
	return sum.wide(2)
}

// Numbers from -bound to bound: the bounds, those about nought, and some between.
func smallNumbers(bound *big.Int, m *mixer) []*big.Int {
	above := []*big.Int{new(big.Int), big.NewInt(1), big.NewInt(2), big.NewInt(3), bound, new(big.Int).Sub(bound, big.NewInt(1)), new(big.Int).Rsh(bound, 1), new(big.Int).Rsh(bound, 5)}
	for range 4 {
		above = append(above, new(big.Int).Mod(bigOf(m.list(20)), new(big.Int).Add(bound, big.NewInt(1))))
	}
	var out []*big.Int
	for _, n := range above {
		if n.Sign() >= 0 && n.Cmp(bound) <= 0 {
			out = append(out, n, negativeOf(n))
		}
	}
	return out
}

func TestSeriesNamedOnes(t *testing.T) {
	cases := []struct {
		name      string
		do        func(impl.Iv, int) (impl.Iv, bool)
		lo, hi, p int
		least     int
		most      int
	}{
		{"16 and nothing", impl.ExpSmall, 0, 0, 4, 14, 18},
		{"2, and 2 of 2 by 2, 1 by 2 of 2: 2, 2, 1", impl.ExpSmall, 2, 2, 1, 3, 7},
		{"2 and 1; the second is spent", impl.ExpSmall, 1, 1, 1, 1, 5},
		{"2 and -1 to 1", impl.ExpSmall, -1, 1, 1, -1, 5},
		{"16, 16, 8, 2 to 3, 0 to 1", impl.ExpSmall, 16, 16, 4, 40, 46},
		{"spent at once", impl.SinSmall, 0, 0, 4, -2, 2},
		{"spent at once", impl.SinSmall, -1, 1, 4, -3, 3},
		{"spent at once", impl.SinSmall, 1, 1, 1, -1, 3},
		{"not spent by one: 2 and a share of less than 1 taken away", impl.SinSmall, 2, 2, 4, -1, 4},
		{"not spent by one, below nought", impl.SinSmall, -2, -2, 4, -4, 1},
		{"16, -16 by 6, then 3 by 20 and 2 by 20", impl.SinSmall, 16, 16, 4, 11, 17},
		{"16 and nothing", impl.CosSmall, 0, 0, 4, 14, 18},
		{"16, -8, 8 by 12", impl.CosSmall, 16, 16, 4, 6, 11},
		{"8, the power -2 whose third is spent, and half a power", impl.AtanSmall, 8, 8, 4, 5, 11},
		{"4, and the power -1", impl.AtanSmall, 4, 4, 3, 1, 6},
		{"8, the power 2 whose third is spent, and half a power", impl.AtanhSmall, 8, 8, 4, 6, 12},
		{"spent at once", impl.AtanSmall, 1, 1, 1, -1, 3},
		{"spent at once", impl.AtanhSmall, -1, -1, 1, -3, 1},
	}
	for _, c := range cases {
		got, ok := c.do(smallIv(c.lo, c.hi), c.p)
		if !ok || !sameIv(got, smallIv(c.least, c.most)) {
			t.Errorf("%s, of %d to %d at %d: %v, %v, want from %d to %d", c.name, c.lo, c.hi, c.p, got, ok, c.least, c.most)
		}
	}
}

// At few bits every r that there is.
func TestSeriesOfEachSmallIv(t *testing.T) {
	for _, s := range allSeries() {
		for p := 1; p <= 5; p++ {
			bound := 1 << (p - s.halvings)
			for lo := -bound - 1; lo <= bound+1; lo++ {
				for hi := lo; hi <= bound+1; hi++ {
					got, ok := s.do(smallIv(lo, hi), p)
					if lo < -bound || hi > bound {
						refusedIv(t, s.name, got, ok)
						continue
					}
					checkPair(t, s.name, got, ok, s.told(pairOf(smallIv(lo, hi)), p))
				}
			}
		}
	}
}

func TestSeriesHoldTheFunctions(t *testing.T) {
	t.Parallel()
	m := &mixer{state: 20261118}
	for _, s := range allSeries() {
		for _, p := range seriesPlaces {
			for _, n := range smallNumbers(near(p-s.halvings, 0), m) {
				got, ok := s.do(ivOf(n, n), p)
				checkPair(t, s.name, got, ok, s.told(onePair(n), p))
				checkTrue(t, s.name, got, p, s.value(scaled(realOf(n), -p)), 600)
			}
		}
	}
}

// Of what is wide the values of both ends and of what lies between are held.
func TestSeriesOfWideOnes(t *testing.T) {
	t.Parallel()
	m := &mixer{state: 5551212}
	for _, s := range allSeries() {
		for _, p := range []int{1, 2, 5, 24, 100, 316, 464} {
			numbers := smallNumbers(near(p-s.halvings, 0), m)
			for range 12 {
				lo, hi := numbers[m.below(len(numbers))], numbers[m.below(len(numbers))]
				if lo.Cmp(hi) > 0 {
					lo, hi = hi, lo
				}
				got, ok := s.do(ivOf(lo, hi), p)
				checkPair(t, s.name, got, ok, s.told(pair{lo, hi}, p))
				middle := new(big.Int).Rsh(new(big.Int).Add(lo, hi), 1)
				for _, n := range []*big.Int{lo, middle, hi} {
					checkBetween(t, s.name, got, p, s.value(scaled(realOf(n), -p)))
				}
			}
		}
	}
}

func TestSquaresOfSmallSineAndCosine(t *testing.T) {
	m := &mixer{state: 1414213562}
	check := func(r impl.Iv, p int) impl.Iv {
		t.Helper()
		sine, _ := impl.SinSmall(r, p)
		cosine, _ := impl.CosSmall(r, p)
		first, ok := impl.IvMul(sine, sine, p)
		second, fine := impl.IvMul(cosine, cosine, p)
		sum, fits := impl.IvAdd(first, second)
		if !ok || !fine || !fits {
			t.Fatalf("no squares of %v at %d", r, p)
		}
		checkBetween(t, "the squares together", sum, p, exactly(1))
		return sum
	}
	for _, p := range seriesPlaces {
		numbers := smallNumbers(near(p, 0), m)
		for i, n := range numbers {
			checkTrue(t, "the squares together", check(ivOf(n, n), p), p, exactly(1), 600)
			other := numbers[(i*7+3)%len(numbers)]
			if n.Cmp(other) <= 0 {
				check(ivOf(n, other), p)
			}
			if next := new(big.Int).Add(n, big.NewInt(2)); next.CmpAbs(near(p, 0)) <= 0 {
				checkTrue(t, "the squares together", check(ivOf(n, next), p), p, exactly(1), 600)
			}
		}
	}
}

// What is below nought is as what is above it: odd ones are the other way round, the cosine is the same.
func TestSeriesBelowNought(t *testing.T) {
	m := &mixer{state: 271828}
	for _, p := range []int{1, 5, 30, 316, 464} {
		for _, n := range smallNumbers(near(p-1, 0), m) {
			for _, do := range []func(impl.Iv, int) (impl.Iv, bool){impl.SinSmall, impl.AtanSmall, impl.AtanhSmall} {
				above, _ := do(ivOf(n, n), p)
				below, _ := do(ivOf(negativeOf(n), negativeOf(n)), p)
				if !sameIv(below, impl.IvNeg(above)) {
					t.Fatalf("of %v and its negative at %d: %v and %v", n, p, above, below)
				}
			}
			above, _ := impl.CosSmall(ivOf(n, n), p)
			below, _ := impl.CosSmall(ivOf(negativeOf(n), negativeOf(n)), p)
			if !sameIv(below, above) {
				t.Fatalf("the cosines of %v and its negative at %d: %v and %v", n, p, above, below)
			}
		}
	}
}

func TestSeriesBounds(t *testing.T) {
	one := big.NewInt(1)
	for _, s := range allSeries() {
		for _, p := range seriesPlaces {
			bound := near(p-s.halvings, 0)
			beyond := new(big.Int).Add(bound, one)
			nought := new(big.Int)
			inside := []impl.Iv{ivOf(bound, bound), ivOf(negativeOf(bound), negativeOf(bound)), ivOf(negativeOf(bound), bound), ivOf(nought, bound), ivOf(negativeOf(bound), nought)}
			outside := []impl.Iv{ivOf(beyond, beyond), ivOf(negativeOf(beyond), negativeOf(beyond)), ivOf(negativeOf(bound), beyond), ivOf(negativeOf(beyond), bound), ivOf(nought, beyond), ivOf(negativeOf(beyond), nought), ivOf(nought, near(mostBits, -1))}
			for _, r := range inside {
				got, ok := s.do(r, p)
				checkPair(t, s.name, got, ok, s.told(pairOf(r), p))
			}
			for _, r := range outside {
				got, ok := s.do(r, p)
				refusedIv(t, s.name+" of what is not within the bounds", got, ok)
			}
		}
	}
}

func TestSeriesRefuse(t *testing.T) {
	for _, s := range allSeries() {
		for _, p := range noConstPlaces {
			for _, r := range []impl.Iv{smallIv(0, 0), smallIv(-1, 1), smallIv(1, -1), smallIv(1, 5)} {
				got, ok := s.do(r, p)
				refusedIv(t, s.name+" at no place", got, ok)
			}
		}
		for _, r := range badIvs() {
			for _, p := range []int{1, 100, 464} {
				got, ok := s.do(r, p)
				refusedIv(t, s.name+" of what is none", got, ok)
			}
		}
	}
}

// Promise 29: every function answers at any arguments, and writes into none.

func TestSeriesWriteIntoNothingAndShareNothing(t *testing.T) {
	defer mustNotPanic(t)
	ivs := append(goodIvs(), badIvs()...)
	for _, v := range ivs {
		r, rooms := layIv(v)
		for _, p := range []int{math.MinInt, -1, 0, 1, 7, 464, 465, math.MaxInt} {
			for _, s := range allSeries() {
				first, _ := s.do(r, p)
				second, _ := s.do(r, p)
				checkApart(t, s.name, rooms, endLists(first, second)...)
			}
		}
	}
	// The first term of a sine, and the first power of an angle, is r itself.
	a, room := layWhole(impl.WholeOf(1))
	for _, s := range allSeries() {
		got, _ := s.do(impl.Iv{Lo: a, Hi: a}, 10)
		checkApart(t, s.name+" of one list", []laid{room}, endLists(got)...)
	}
}

func TestSeriesAreAnsweredAgain(t *testing.T) {
	text := func(v impl.Iv) string { return impl.WholeText(v.Lo) + " " + impl.WholeText(v.Hi) }
	r := ivOf(near(98, -3), near(98, 5))
	var want []string
	for _, s := range allSeries() {
		got, _ := s.do(r, 100)
		want = append(want, text(got))
		for _, list := range endLists(got) {
			clear(list)
		}
	}
	again := func() {
		all := allSeries()
		slices.Reverse(all)
		for i, s := range all {
			if got, _ := s.do(r, 100); text(got) != want[len(want)-1-i] {
				t.Errorf("%s is %s, and was %s", s.name, text(got), want[len(want)-1-i])
			}
		}
	}
	var all sync.WaitGroup
	for range 8 {
		all.Go(again)
	}
	all.Wait()
}
