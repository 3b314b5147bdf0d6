package tests

import (
	"math"
	"math/big"
	"testing"

	"loop.example/g00481/impl"
)

// Promise 12: angles and logarithms of small parts are held.

// The digits of pi and of the logarithm of 2, from tables: 100 behind the point.
const (
	tablePi  = "3.1415926535897932384626433832795028841971693993751058209749445923078164062862089986280348253421170679"
	tableLn2 = "0.6931471805599453094172321214581765680755001343602552541206800094933936219696947156058633269964186875"
)

// The sum of the parts of n at p and how many parts there are, as the document tells them; every second one is taken away if it turns.
func slowSum(n *big.Int, p int, turns bool) (*big.Int, int) {
	sum, count := new(big.Int), 0
	square := new(big.Int).Mul(n, n)
	for part := new(big.Int).Quo(near(p, 0), n); part.Sign() > 0; part.Quo(part, square) {
		share := new(big.Int).Quo(part, big.NewInt(int64(2*count+1)))
		if turns && count%2 == 1 {
			share.Neg(share)
		}
		sum.Add(sum, share)
		count++
	}
	return sum, count
}

func checkAtan(t *testing.T, name string, got impl.Iv, ok bool, n *big.Int, p int) {
	t.Helper()
	sum, count := slowSum(n, p, true)
	off := big.NewInt(int64(count + 1))
	checkIv(t, name, got, ok, new(big.Int).Sub(sum, off), new(big.Int).Add(sum, off))
	checkHolds(t, name, got, n, p, true)
}

func checkAtanh(t *testing.T, name string, got impl.Iv, ok bool, n *big.Int, p int) {
	t.Helper()
	sum, count := slowSum(n, p, false)
	checkIv(t, name, got, ok, sum, new(big.Int).Add(sum, big.NewInt(int64(count+2))))
	checkHolds(t, name, got, n, p, false)
}

// What is told to 64 bits more, with all that it may be off, lies between the ends.
func checkHolds(t *testing.T, name string, got impl.Iv, n *big.Int, p int, turns bool) {
	t.Helper()
	const more = 64
	sum, count := slowSum(n, p+more, turns)
	off := big.NewInt(int64(count + 2))
	least, most := new(big.Int).Sub(sum, off), new(big.Int).Add(sum, off)
	// Where nothing is taken away, all that is cut off is missing.
	if !turns {
		least = sum
	}
	lo, hi := endsOf(got)
	if lo.Lsh(lo, more).Cmp(least) > 0 || hi.Lsh(hi, more).Cmp(most) < 0 {
		t.Fatalf("%s of 1 by %v at %d does not hold what it is said to be", name, n, p)
	}
}

func checkInv(t *testing.T, n int, p int) {
	t.Helper()
	angle, ok := impl.AtanInv(n, p)
	checkAtan(t, "AtanInv", angle, ok, big.NewInt(int64(n)), p)
	hyperbolic, ok := impl.AtanhInv(n, p)
	checkAtanh(t, "AtanhInv", hyperbolic, ok, big.NewInt(int64(n)), p)
}

func checkPow(t *testing.T, i int, p int) {
	t.Helper()
	angle, ok := impl.AtanPow(i, p)
	checkAtan(t, "AtanPow", angle, ok, near(i, 0), p)
	hyperbolic, ok := impl.AtanhPow(i, p)
	checkAtanh(t, "AtanhPow", hyperbolic, ok, near(i, 0), p)
}

func TestSlowSumsNamedOnes(t *testing.T) {
	cases := []struct {
		name   string
		do     func(int, int) (impl.Iv, bool)
		n, p   int
		lo, hi int
	}{
		{"parts 204 and 8: 204 less 2", impl.AtanInv, 5, 10, 199, 205},
		{"parts 204 and 8: 204 and 2", impl.AtanhInv, 5, 10, 206, 210},
		{"parts 85, 9 and 1: 85 and 3 and 0", impl.AtanhInv, 3, 8, 88, 93},
		{"parts 85, 9 and 1: 85 less 3", impl.AtanInv, 3, 8, 78, 86},
		{"parts 64 and 4: 64 less 1", impl.AtanPow, 2, 8, 60, 66},
		{"parts 64 and 4: 64 and 1", impl.AtanhPow, 2, 8, 65, 69},
		{"one part of 1", impl.AtanInv, 2, 1, -1, 3},
		{"one part of 1", impl.AtanhInv, 2, 1, 1, 4},
		{"no part", impl.AtanInv, 3, 1, -1, 1},
		{"no part", impl.AtanhInv, 3, 1, 0, 2},
		{"no part", impl.AtanInv, 1000, 9, -1, 1},
		{"one part of 1", impl.AtanInv, 1000, 10, -1, 3},
		{"no part", impl.AtanPow, 9, 4, -1, 1},
		{"no part", impl.AtanhPow, 9, 4, 0, 2},
		{"no part", impl.AtanPow, 480, 479, -1, 1},
		{"one part of 1", impl.AtanPow, 480, 480, -1, 3},
		{"one part of 1", impl.AtanhPow, 480, 480, 1, 4},
		{"one part of 1", impl.AtanPow, 1, 1, -1, 3},
		{"parts 4 and 1: 4 less 0", impl.AtanInv, 2, 3, 1, 7},
		{"parts 4 and 1: 4 and 0", impl.AtanhPow, 1, 3, 4, 8},
	}
	for _, c := range cases {
		got, ok := c.do(c.n, c.p)
		if !ok || !sameIv(got, smallIv(c.lo, c.hi)) {
			t.Errorf("%s, of %d at %d: %v, %v, want from %d to %d", c.name, c.n, c.p, got, ok, c.lo, c.hi)
		}
	}
}

func TestSlowSumsOfEachNumber(t *testing.T) {
	for n := 2; n <= 1000; n++ {
		for _, p := range []int{1, 2, 9, 10, 24, 25, 100, 316} {
			checkInv(t, n, p)
		}
	}
}

func TestSlowSumsAtEachPlace(t *testing.T) {
	for p := 1; p <= 480; p++ {
		for _, n := range []int{2, 3, 4, 5, 10, 239, 256, 999, 1000} {
			checkInv(t, n, p)
		}
	}
}

func TestSlowSumsOfEachPower(t *testing.T) {
	for i := 1; i <= 480; i++ {
		for _, p := range []int{1, 2, i - 1, i, i + 1, 2 * i, 3*i - 1, 3 * i, 100, 216, 479, 480} {
			if p >= 1 && p <= 480 {
				checkPow(t, i, p)
			}
		}
	}
	for p := 1; p <= 480; p++ {
		for _, i := range []int{1, 2, 3, 11, 12, 24} {
			checkPow(t, i, p)
		}
	}
}

// Where the power is a number that both take, both tell the same.
func TestSlowSumsOfPowersThatAreNumbers(t *testing.T) {
	for i := 1; i <= 9; i++ {
		for _, p := range []int{1, 5, 8, 24, 99, 316, 480} {
			x, ok := impl.AtanPow(i, p)
			y, fine := impl.AtanInv(1<<i, p)
			if !ok || !fine || !sameIv(x, y) {
				t.Errorf("AtanPow(%d, %d) is another one than AtanInv", i, p)
			}
			x, ok = impl.AtanhPow(i, p)
			y, fine = impl.AtanhInv(1<<i, p)
			if !ok || !fine || !sameIv(x, y) {
				t.Errorf("AtanhPow(%d, %d) is another one than AtanhInv", i, p)
			}
		}
	}
}

// At few bits the machine's own functions tell the value well enough.
func TestSlowSumsHoldTheFunctions(t *testing.T) {
	held := func(v impl.Iv, value float64, p int) bool {
		lo, _ := impl.WholeInt(v.Lo)
		hi, _ := impl.WholeInt(v.Hi)
		at := value * math.Exp2(float64(p))
		return float64(lo) <= at && at <= float64(hi)
	}
	for n := 2; n <= 1000; n++ {
		for _, p := range []int{1, 5, 11, 20, 31, 44} {
			angle, _ := impl.AtanInv(n, p)
			hyperbolic, _ := impl.AtanhInv(n, p)
			if !held(angle, math.Atan(1/float64(n)), p) || !held(hyperbolic, math.Atanh(1/float64(n)), p) {
				t.Errorf("1 by %d at %d", n, p)
			}
		}
	}
	for i := 1; i <= 60; i++ {
		for _, p := range []int{1, 5, 11, 20, 31, 44} {
			angle, _ := impl.AtanPow(i, p)
			hyperbolic, _ := impl.AtanhPow(i, p)
			if !held(angle, math.Atan(math.Exp2(float64(-i))), p) || !held(hyperbolic, math.Atanh(math.Exp2(float64(-i))), p) {
				t.Errorf("1 by 2^%d at %d", i, p)
			}
		}
	}
}

// 16 angles of 1 by 5 less 4 of 1 by 239 are pi; 2 of 1 by 3, hyperbolic, are the logarithm of 2: as tables have them.
func TestSlowSumsHoldTheTables(t *testing.T) {
	weighed := func(v impl.Iv, by int64) (*big.Int, *big.Int) {
		lo, hi := endsOf(v)
		lo.Mul(lo, big.NewInt(by))
		hi.Mul(hi, big.NewInt(by))
		if by < 0 {
			return hi, lo
		}
		return lo, hi
	}
	check := func(name string, table string, lo *big.Int, hi *big.Int, p int) {
		t.Helper()
		value, _ := new(big.Rat).SetString(table)
		below, above := fraction(lo, near(p, 0)), fraction(hi, near(p, 0))
		if below.Cmp(value) > 0 || above.Cmp(value) < 0 {
			t.Errorf("%s at %d is not held", name, p)
		}
	}
	// The tables have 100 digits, which are more than 330 bits.
	for p := 1; p <= 320; p++ {
		five, _ := impl.AtanInv(5, p)
		other, _ := impl.AtanInv(239, p)
		lo, hi := weighed(five, 16)
		low, high := weighed(other, -4)
		check("pi", tablePi, lo.Add(lo, low), hi.Add(hi, high), p)
		third, _ := impl.AtanhInv(3, p)
		lo, hi = weighed(third, 2)
		check("the logarithm of 2", tableLn2, lo, hi, p)
	}
}

func TestSlowSumsRefuse(t *testing.T) {
	refused := func(name string, do func(int, int) (impl.Iv, bool), n int, p int) {
		t.Helper()
		got, ok := do(n, p)
		refusedIv(t, name, got, ok)
	}
	others := []int{math.MinInt, math.MinInt + 1, -480, -2, -1, 0, 481, 482, 1001, 1 << 32, 1<<32 + 5, math.MaxInt - 1, math.MaxInt}
	for _, n := range []int{1, 2, 5, 480} {
		for _, p := range others {
			refused("AtanInv at no place", impl.AtanInv, n, p)
			refused("AtanhInv at no place", impl.AtanhInv, n, p)
			refused("AtanPow at no place", impl.AtanPow, n, p)
			refused("AtanhPow at no place", impl.AtanhPow, n, p)
		}
	}
	for _, p := range append(others, 1, 5, 480) {
		for _, n := range []int{math.MinInt, -5, -2, -1, 0, 1, 1001, 1 << 32, 1<<32 + 5, math.MaxInt} {
			refused("AtanInv of another n", impl.AtanInv, n, p)
			refused("AtanhInv of another n", impl.AtanhInv, n, p)
		}
		for _, i := range others {
			refused("AtanPow of another i", impl.AtanPow, i, p)
			refused("AtanhPow of another i", impl.AtanhPow, i, p)
		}
	}
}

// Promise 29: every function answers at any arguments; what is answered is new each time.

func TestSlowSumsAnswerAtAnything(t *testing.T) {
	defer mustNotPanic(t)
	numbers := []int{math.MinInt, math.MinInt + 1, -1, 0, 1, 2, 24, 479, 480, 481, 1000, 1001, 1 << 32, math.MaxInt - 1, math.MaxInt}
	for _, do := range []func(int, int) (impl.Iv, bool){impl.AtanInv, impl.AtanhInv, impl.AtanPow, impl.AtanhPow} {
		for _, n := range numbers {
			for _, p := range numbers {
				first, _ := do(n, p)
				second, _ := do(n, p)
				checkApart(t, "a slow sum", nil, first.Lo.Mag, first.Hi.Mag, second.Lo.Mag, second.Hi.Mag)
			}
		}
	}
}

func TestSlowSumsKeepNothing(t *testing.T) {
	first, _ := impl.AtanInv(5, 100)
	want := impl.WholeText(first.Lo)
	first.Lo.Mag[0], first.Hi.Mag[0] = 7, 7
	second, _ := impl.AtanInv(5, 100)
	if impl.WholeText(second.Lo) != want {
		t.Error("AtanInv hands out what it keeps")
	}
}
