package tests

import (
	"math"
	"math/big"
	"slices"
	"sync"
	"testing"

	"loop.example/g00481/impl"
)

// Promise 15: the logarithm of a product is the sum of the logarithms; a power of a sum the product of the powers.

const mostArg = 1 << 61

// No v, f or p of the chapters from this one on.
var (
	noArgs   = []int{math.MinInt, math.MinInt + 1, -mostArg - 2, -mostArg - 1, mostArg + 1, mostArg + 2, math.MaxInt - 1, math.MaxInt}
	noPoints = []int{math.MinInt, math.MinInt + 1, -60, -2, -1, 61, 62, 64, 300, 1 << 32, math.MaxInt}
	noEncs   = []int{math.MinInt, math.MinInt + 1, -300, -2, -1, 0, 301, 302, 316, 464, 1 << 32, math.MaxInt}
)

var (
	somePoints = []int{0, 1, 2, 7, 16, 31, 54, 55, 56, 59, 60}
	someEncs   = []int{1, 2, 3, 16, 30, 59, 60, 61, 92, 260, 299, 300}
)

func bigInt(n int) *big.Int { return big.NewInt(int64(n)) }

// Numbers of each size, with both signs; the edges, and such as lie beside powers of 2.
func someArgs(m *mixer) []int {
	out := []int{0, mostArg, -mostArg, mostArg - 1, -mostArg + 1}
	for k := 0; k < 61; k += 1 + m.below(6) {
		for _, n := range []int{1<<k - 1, 1 << k, 1<<k + 1, m.below(1 << k), 3 << k / 4} {
			out = append(out, n, -n)
		}
	}
	return out
}

func codedPair(t *testing.T, name string, got impl.Iv, code int, want pair, wanted int) {
	t.Helper()
	if code != wanted {
		t.Fatalf("%s: the code is %d, want %d", name, code, wanted)
	}
	if code != impl.EnOk {
		refusedIv(t, name, got, false)
		return
	}
	checkPair(t, name, got, true, want)
}

func refusedCode(t *testing.T, name string, got impl.Iv, code int, wanted int) {
	t.Helper()
	codedPair(t, name, got, code, pair{}, wanted)
}

func rawPair(v int, f int, p int) pair { return onePair(bigInt(v)).moved(f, p) }

func powerPair(v int, f int, p int) (pair, int) {
	x := fraction(bigInt(v), near(f, 0))
	if x.Cmp(big.NewRat(64, 1)) > 0 {
		return pair{}, impl.EnGreat
	}
	if x.Cmp(big.NewRat(-400, 1)) < 0 {
		return pairOf(smallIv(0, 1)), impl.EnOk
	}
	top := new(big.Int).Mul(bigInt(v), big.NewInt(65536))
	bottom := new(big.Int).Mul(big.NewInt(45426), near(f, 0))
	n := int(floorOf(top, bottom).Int64())
	q := p + 16
	if n > 0 {
		q += n
	}
	r := rawPair(v, f, q).minus(ln2Pair(q).times(n))
	power := expPair(r, q).moved(q, n+p)
	return pair{maxOf(power.lo, new(big.Int)), power.hi}, impl.EnOk
}

func logPair(v int, f int, p int) (pair, int) {
	if v <= 0 {
		return pair{}, impl.EnLess
	}
	q := p + 16
	b := bigInt(v).BitLen() - 1
	top := new(big.Int).Sub(bigInt(v), near(b, 0))
	bottom := new(big.Int).Add(bigInt(v), near(b, 0))
	z := fracPair(top.Lsh(top, uint(q)), bottom)
	return atanhPair(z, q).times(2).plus(ln2Pair(q).times(b-f)).moved(q, p), impl.EnOk
}

func checkPower(t *testing.T, v int, f int, p int) {
	t.Helper()
	want, code := powerPair(v, f, p)
	got, how := impl.ExpIv(v, f, p)
	codedPair(t, "ExpIv", got, how, want, code)
	if how == impl.EnOk {
		checkTrue(t, "ExpIv", got, p, trueExpOfWord(v, f), 2)
	}
}

// What is less than any number at p need not be reckoned.
func trueExpOfWord(v int, f int) *big.Float {
	x := wordValue(v, f)
	if x.Cmp(exactly(-700)) < 0 {
		return scaled(exactly(1), -truthBits)
	}
	return trueExp(x)
}

func checkLog(t *testing.T, v int, f int, p int) {
	t.Helper()
	want, code := logPair(v, f, p)
	got, how := impl.LogIv(v, f, p)
	codedPair(t, "LogIv", got, how, want, code)
	if how == impl.EnOk {
		checkTrue(t, "LogIv", got, p, trueLog(wordValue(v, f)), 2)
	}
}

func TestCodesAndBoundsOfWords(t *testing.T) {
	if impl.MaxEnc != 300 || impl.MaxArg != mostArg {
		t.Error("MaxEnc, MaxArg", impl.MaxEnc, impl.MaxArg)
	}
	if !slices.Equal([]int{impl.EnOk, impl.EnGreat, impl.EnLess, impl.EnWide, impl.EnBad}, []int{0, 1, 2, 3, 4}) {
		t.Error("the codes are other ones")
	}
}

func TestRawIvNamedOnes(t *testing.T) {
	cases := []struct{ v, f, p, lo, hi int }{
		{5, 1, 1, 5, 5}, {5, 1, 3, 20, 20}, {5, 2, 1, 2, 3}, {-5, 2, 1, -3, -2}, {4, 2, 1, 2, 2}, {-4, 2, 1, -2, -2}, {1, 60, 1, 0, 1}, {-1, 60, 1, -1, 0}, {0, 60, 1, 0, 0}, {0, 0, 300, 0, 0},
		{mostArg, 60, 1, 4, 4}, {-mostArg, 60, 1, -4, -4}, {mostArg - 1, 60, 1, 3, 4}, {1 - mostArg, 60, 1, -4, -3},
	}
	for _, c := range cases {
		got, how := impl.RawIv(c.v, c.f, c.p)
		codedPair(t, "RawIv", got, how, pairOf(smallIv(c.lo, c.hi)), impl.EnOk)
	}
	m := &mixer{state: 8675309}
	for _, v := range someArgs(m) {
		for _, f := range somePoints {
			for _, p := range someEncs {
				got, how := impl.RawIv(v, f, p)
				codedPair(t, "RawIv", got, how, rawPair(v, f, p), impl.EnOk)
			}
		}
	}
}

func TestPowersOfWords(t *testing.T) {
	t.Parallel()
	m := &mixer{state: 161803398}
	for _, f := range somePoints {
		for _, v := range someArgs(m) {
			checkPower(t, v, f, someEncs[m.below(len(someEncs))])
		}
		// Many words are too great; these are not.
		for range 12 {
			most := min(64<<min(f, 50), mostArg)
			checkPower(t, m.below(most), f, 1+m.below(300))
			checkPower(t, -m.below(most), f, 1+m.below(300))
		}
	}
}

func TestPowersAtEachPlace(t *testing.T) {
	t.Parallel()
	for p := 1; p <= 300; p++ {
		for _, v := range []int{0, 1, -1, 12, -10, 256, -1600} {
			checkPower(t, v, 2, p)
		}
	}
	for _, p := range []int{1, 30, 300} {
		for x := -401; x <= 65; x++ {
			checkPower(t, x, 0, p)
		}
	}
}

func TestPowersAtTheirEdges(t *testing.T) {
	t.Parallel()
	for f := 0; f <= 60; f++ {
		for _, p := range []int{1, 59, 300} {
			for d := -1; d <= 1; d++ {
				if f <= 54 {
					checkPower(t, 64<<f+d, f, p)
				}
				if f <= 51 {
					checkPower(t, -(400<<f)+d, f, p)
				}
				checkPower(t, d, f, p)
			}
		}
	}
	got, how := impl.ExpIv(64, 0, 300)
	if how != impl.EnOk || !impl.IvOk(got) {
		t.Error("64 is not above 64:", how)
	}
	for _, c := range [][2]int{{65, 0}, {64<<10 + 1, 10}, {64<<54 + 1, 54}, {mostArg, 0}, {mostArg, 54}} {
		got, how := impl.ExpIv(c[0], c[1], 100)
		refusedCode(t, "ExpIv above 64", got, how, impl.EnGreat)
	}
	// From 55 on no word is above 64.
	if _, how := impl.ExpIv(mostArg, 55, 100); how != impl.EnOk {
		t.Error("2^61 by 2^55 is 64:", how)
	}
	for _, c := range [][2]int{{-401, 0}, {-(400<<20 + 1), 20}, {-400, 0}, {-399, 0}, {-300, 0}, {-mostArg, 0}, {-mostArg, 52}} {
		got, how := impl.ExpIv(c[0], c[1], 300)
		codedPair(t, "a very small power", got, how, pairOf(smallIv(0, 1)), impl.EnOk)
	}
	// At 300 bits the power of -200 has 11 bits.
	got, how = impl.ExpIv(-200, 0, 300)
	if how != impl.EnOk || impl.WholeCmp(got.Lo, impl.WholeOf(1000)) < 0 || impl.WholeCmp(got.Hi, impl.WholeOf(3000)) > 0 {
		t.Error("the power of -200:", got, how)
	}
}

// Nearly whole numbers of doublings: with a rougher logarithm of 2 another one is taken, and these are told otherwise.
func TestPowersAboutDoublings(t *testing.T) {
	t.Parallel()
	for _, c := range [][3]int{{6668636336947, 37, 278}, {216445454018150, 42, 213}, {22101858587770, 40, 274}, {98243584327, 32, 162}, {101220216995, 31, 224}, {34295949715046, 40, 220}, {506053006333050, 43, 253}} {
		checkPower(t, c[0], c[1], c[2])
	}
	m := &mixer{state: 45426}
	for range 300 {
		f, n := m.below(54), m.below(140)-70
		at := new(big.Int).Mul(bigInt(n*45426), near(f, 0))
		v := int(floorOf(at, big.NewInt(65536)).Int64())
		for d := range 2 {
			checkPower(t, v+d, f, 1+m.below(300))
		}
	}
}

func TestPowersNamedOnes(t *testing.T) {
	cases := []struct{ v, f, p, lo, hi int }{
		{0, 0, 1, 1, 3}, {0, 60, 1, 1, 3}, {0, 0, 20, 1<<20 - 1, 1<<20 + 1}, {1, 0, 1, 5, 6}, {1, 60, 1, 1, 3}, {-1, 60, 1, 1, 3}, {-1, 0, 1, 0, 1}, {-1, 0, 4, 5, 6}, {-40, 0, 1, 0, 1}, {12, 2, 30, 21566681051, 21566681052}, {-10, 2, 30, 88138096, 88138097},
	}
	for _, c := range cases {
		got, how := impl.ExpIv(c.v, c.f, c.p)
		codedPair(t, "ExpIv", got, how, pairOf(smallIv(c.lo, c.hi)), impl.EnOk)
	}
}

func TestLogarithmsOfWords(t *testing.T) {
	t.Parallel()
	m := &mixer{state: 57721566}
	for _, f := range somePoints {
		for _, v := range someArgs(m) {
			checkLog(t, v, f, someEncs[m.below(len(someEncs))])
		}
	}
}

// 1, the powers of 2, and the numbers beside them.
func TestLogarithmsAboutPowersOfTwo(t *testing.T) {
	t.Parallel()
	for k := 0; k <= 61; k++ {
		for _, f := range []int{0, 1, 30, k, 60} {
			for d := -1; d <= 1; d++ {
				v := 1<<k + d
				if v > mostArg || f > 60 {
					continue
				}
				for _, p := range []int{1, 61, 300} {
					checkLog(t, v, f, p)
				}
			}
		}
	}
	for f := 0; f <= 60; f++ {
		got, how := impl.LogIv(1<<f, f, 100)
		codedPair(t, "the logarithm of 1", got, how, pairOf(smallIv(-1, 1)), impl.EnOk)
	}
}

func TestLogarithmsAtEachPlace(t *testing.T) {
	t.Parallel()
	for p := 1; p <= 300; p++ {
		checkLog(t, 10, 0, p)
		checkLog(t, 1, 1, p)
		checkLog(t, mostArg, 60, p)
		checkLog(t, 3, 60, p)
	}
}

func TestLogarithmsNamedOnes(t *testing.T) {
	cases := []struct{ v, f, p, lo, hi int }{
		{10, 0, 30, 2472381917, 2472381918}, {1, 1, 30, -744261118, -744261117}, {3, 0, 1, 2, 3}, {1, 0, 1, -1, 1}, {2, 0, 1, 1, 2}, {1, 1, 1, -2, -1}, {1, 60, 1, -84, -83}, {mostArg, 0, 1, 84, 85},
	}
	for _, c := range cases {
		got, how := impl.LogIv(c.v, c.f, c.p)
		codedPair(t, "LogIv", got, how, pairOf(smallIv(c.lo, c.hi)), impl.EnOk)
	}
}

func TestLogarithmOfAProduct(t *testing.T) {
	m := &mixer{state: 69314718}
	for range 300 {
		a, b := 1+m.below(1<<(1+m.below(30))), 1+m.below(1<<(1+m.below(30)))
		f, g := m.below(31), m.below(30)
		p := 1 + m.below(300)
		first, _ := impl.LogIv(a, f, p)
		second, _ := impl.LogIv(b, g, p)
		product, how := impl.LogIv(a*b, f+g, p)
		sum, ok := impl.IvAdd(first, second)
		if how != impl.EnOk || !ok || !impl.IvMeet(sum, product) || impl.WholeCmp(impl.IvWidth(sum), impl.WholeOf(4)) > 0 {
			t.Fatalf("the logarithms of %d by 2^%d and %d by 2^%d at %d: %v, and of the product %v", a, f, b, g, p, sum, product)
		}
	}
}

func TestPowerOfASum(t *testing.T) {
	m := &mixer{state: 141421}
	for range 300 {
		f := m.below(50)
		a, b := m.below(30<<f)-m.below(60<<f), m.below(30<<f)-m.below(60<<f)
		p := 1 + m.below(300)
		first, _ := impl.ExpIv(a, f, p)
		second, _ := impl.ExpIv(b, f, p)
		sum, how := impl.ExpIv(a+b, f, p)
		product, ok := impl.IvMul(first, second, p)
		if how != impl.EnOk || !ok || !impl.IvMeet(sum, product) {
			t.Fatalf("the powers of %d and %d by 2^%d at %d: %v, and of the sum %v", a, b, f, p, product, sum)
		}
		whole, how := impl.ExpIv(0, f, p)
		back, _ := impl.ExpIv(-a, f, p)
		one, ok := impl.IvMul(first, back, p)
		if how != impl.EnOk || !ok || !impl.IvMeet(one, whole) {
			t.Fatalf("the powers of %d and %d by 2^%d at %d: %v", a, -a, f, p, one)
		}
	}
}

// What is reckoned to more bits meets what is reckoned to less.
func TestPowersAndLogarithmsOfMoreBits(t *testing.T) {
	for _, v := range []int{1, 3, 100, 12345, 1<<20 - 1} {
		for i, q := range someEncs {
			for _, p := range someEncs[:i] {
				more, _ := impl.ExpIv(v, 15, q)
				less, _ := impl.ExpIv(v, 15, p)
				checkMeets(t, "ExpIv", more, q, less, p)
				more, _ = impl.LogIv(v, 15, q)
				less, _ = impl.LogIv(v, 15, p)
				checkMeets(t, "LogIv", more, q, less, p)
			}
		}
	}
}

// Bounds that are met are accepted, bounds that are passed by one are refused, whatever stands beside them.
func checkWordBounds(t *testing.T, name string, do func(v int, f int, p int) (impl.Iv, int), good []int) {
	t.Helper()
	for _, v := range good {
		for _, f := range []int{0, 60} {
			for _, p := range []int{1, 300} {
				if got, how := do(v, f, p); how == impl.EnBad || how == impl.EnOk && !impl.IvOk(got) {
					t.Errorf("%s of %d, %d, %d: %v, %d", name, v, f, p, got, how)
				}
			}
		}
	}
	for _, v := range slices.Concat(good, noArgs) {
		for _, f := range slices.Concat([]int{0, 60}, noPoints) {
			for _, p := range slices.Concat([]int{1, 300}, noEncs) {
				if slices.Contains(noArgs, v) || slices.Contains(noPoints, f) || slices.Contains(noEncs, p) {
					got, how := do(v, f, p)
					refusedCode(t, name+" out of bounds", got, how, impl.EnBad)
				}
			}
		}
	}
}

func TestPowersAndLogarithmsRefuse(t *testing.T) {
	good := []int{-mostArg, -1, 0, 1, mostArg}
	checkWordBounds(t, "RawIv", impl.RawIv, good)
	checkWordBounds(t, "ExpIv", impl.ExpIv, good)
	checkWordBounds(t, "LogIv", impl.LogIv, good)
	for _, v := range []int{0, -1, -2, -10, -mostArg} {
		for _, f := range somePoints {
			got, how := impl.LogIv(v, f, 30)
			refusedCode(t, "LogIv of what is not above 0", got, how, impl.EnLess)
		}
	}
}

// Promise 29: every function answers at any arguments; what was answered once is answered again.

// Every number that may stand in any place, and what is answered of it, twice.
func checkAnswersAtAnything(t *testing.T, name string, do func(v int, f int, p int) (impl.Iv, int)) {
	t.Helper()
	defer mustNotPanic(t)
	for _, v := range slices.Concat(noArgs, []int{-mostArg, -1, 0, 1, 12345, mostArg}) {
		for _, f := range slices.Concat(noPoints, []int{0, 17, 60}) {
			for _, p := range slices.Concat(noEncs, []int{1, 48, 300}) {
				first, how := do(v, f, p)
				second, too := do(v, f, p)
				if how != too || !sameIv(first, second) {
					t.Fatalf("%s of %d, %d, %d is another one the second time", name, v, f, p)
				}
				checkApart(t, name, nil, endLists(first, second)...)
			}
		}
	}
}

func TestPowersAndLogarithmsAnswerAtAnything(t *testing.T) {
	checkAnswersAtAnything(t, "RawIv", impl.RawIv)
	checkAnswersAtAnything(t, "ExpIv", impl.ExpIv)
	checkAnswersAtAnything(t, "LogIv", impl.LogIv)
}

// What was handed out is written over; then all is asked for again, in another order and by many at once.
func checkAnsweredAgain(t *testing.T, name string, do func(v int, f int, p int) (impl.Iv, int)) {
	t.Helper()
	type asked struct{ v, f, p int }
	var asks []asked
	want := map[asked]string{}
	text := func(a asked) string {
		got, how := do(a.v, a.f, a.p)
		out := impl.WholeText(got.Lo) + " " + impl.WholeText(got.Hi) + " " + impl.Digits(how)
		for _, list := range endLists(got) {
			clear(list)
		}
		return out
	}
	for _, v := range []int{-70000, -3, 0, 5, 77777} {
		for _, f := range []int{10, 16} {
			for _, p := range []int{1, 40, 41, 300} {
				asks = append(asks, asked{v, f, p})
				want[asked{v, f, p}] = text(asked{v, f, p})
			}
		}
	}
	again := func() {
		for _, a := range slices.Backward(asks) {
			if got := text(a); got != want[a] {
				t.Errorf("%s of %v is %s, and was %s", name, a, got, want[a])
			}
		}
	}
	again()
	var all sync.WaitGroup
	for range 6 {
		all.Go(again)
	}
	all.Wait()
}

func TestPowersAndLogarithmsAreAnsweredAgain(t *testing.T) {
	checkAnsweredAgain(t, "RawIv", impl.RawIv)
	checkAnsweredAgain(t, "ExpIv", impl.ExpIv)
	checkAnsweredAgain(t, "LogIv", impl.LogIv)
}
