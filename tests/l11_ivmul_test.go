package tests

import (
	"math"
	"math/big"
	"testing"

	"loop.example/g00481/impl"
)

// Promise 11: whatever numbers are held, their product, quotient and root are held.

var noPlaces = []int{-1, -2, 481, 482, 1 << 32, math.MinInt, math.MaxInt}

// The least and the greatest of four fractions, rounded outwards.
func outward(fractions [4]*big.Rat) (*big.Int, *big.Int) {
	least, most := fractions[0], fractions[0]
	for _, f := range fractions {
		if f.Cmp(least) < 0 {
			least = f
		}
		if f.Cmp(most) > 0 {
			most = f
		}
	}
	return floorOf(least.Num(), least.Denom()), ceilingOf(most.Num(), most.Denom())
}

func fraction(a *big.Int, b *big.Int) *big.Rat { return new(big.Rat).SetFrac(a, b) }

func checkIvMul(t *testing.T, a impl.Iv, b impl.Iv, p int) {
	t.Helper()
	lo, hi := endsOf(a)
	low, high := endsOf(b)
	product := func(x *big.Int, y *big.Int) *big.Rat { return fraction(new(big.Int).Mul(x, y), near(p, 0)) }
	least, most := outward([4]*big.Rat{product(lo, low), product(lo, high), product(hi, low), product(hi, high)})
	got, ok := impl.IvMul(a, b, p)
	checkIv(t, "IvMul", got, ok, least, most)
}

func checkIvDiv(t *testing.T, a impl.Iv, b impl.Iv, p int) {
	t.Helper()
	lo, hi := endsOf(a)
	low, high := endsOf(b)
	got, ok := impl.IvDiv(a, b, p)
	if low.Sign() <= 0 {
		refusedIv(t, "IvDiv by what is not above 0", got, ok)
		return
	}
	quotient := func(x *big.Int, y *big.Int) *big.Rat { return fraction(new(big.Int).Lsh(x, uint(p)), y) }
	least, most := outward([4]*big.Rat{quotient(lo, low), quotient(lo, high), quotient(hi, low), quotient(hi, high)})
	checkIv(t, "IvDiv", got, ok, least, most)
}

func checkIvRoot(t *testing.T, v impl.Iv, p int) {
	t.Helper()
	lo, hi := endsOf(v)
	got, ok := impl.IvRoot(v, p)
	if lo.Sign() < 0 {
		refusedIv(t, "IvRoot of what is below 0", got, ok)
		return
	}
	low, high := new(big.Int).Lsh(lo, uint(p)), new(big.Int).Lsh(hi, uint(p))
	checkIv(t, "IvRoot", got, ok, roundedRoot(low, 0, impl.MdDown), roundedRoot(high, 0, impl.MdUp))
}

// All ways in which the signs of the four ends may stand, ends that are 0 among them.
func TestIvMulAndDivOfSmallOnes(t *testing.T) {
	for lo := -4; lo <= 4; lo++ {
		for hi := lo; hi <= 4; hi++ {
			for low := -3; low <= 4; low++ {
				for high := low; high <= 4; high++ {
					for p := range 4 {
						a, b := smallIv(lo, hi), smallIv(low, high)
						checkIvMul(t, a, b, p)
						checkIvDiv(t, a, b, p)
					}
				}
			}
		}
	}
}

// Each pair of numbers that are held is multiplied and divided, and sought in what is answered.
func TestProductsAndQuotientsAreHeld(t *testing.T) {
	sought := func(a impl.Iv, x int, y int, by int) bool {
		// x by (y times by) lies between the ends.
		lo, _ := impl.WholeInt(a.Lo)
		hi, _ := impl.WholeInt(a.Hi)
		return lo*y*by <= x && x <= hi*y*by
	}
	for lo := -5; lo <= 5; lo += 2 {
		for hi := lo; hi <= 5; hi += 3 {
			for low := -4; low <= 5; low++ {
				for high := low; high <= 5; high += 2 {
					a, b := smallIv(lo, hi), smallIv(low, high)
					product, ok := impl.IvMul(a, b, 2)
					quotient, fine := impl.IvDiv(a, b, 2)
					if !ok || fine != (low > 0) {
						t.Fatalf("%v and %v: %v, %v", a, b, ok, fine)
					}
					for x := lo; x <= hi; x++ {
						for y := low; y <= high; y++ {
							if !sought(product, x*y, 1, 4) || (fine && !sought(quotient, 4*x, y, 1)) {
								t.Fatalf("%d and %d, of %v and %v, are lost", x, y, a, b)
							}
						}
					}
				}
			}
		}
	}
}

func TestIvMulNamedOnes(t *testing.T) {
	cases := []struct{ lo, hi, low, high, p, least, most int }{
		{-3, 5, -2, 7, 1, -11, 18}, {-3, 5, -2, 7, 0, -21, 35}, {2, 3, 5, 7, 0, 10, 21}, {-3, -2, 5, 7, 0, -21, -10}, {2, 3, -7, -5, 0, -21, -10}, {-3, -2, -7, -5, 0, 10, 21},
		{-3, 2, 5, 7, 0, -21, 14}, {-3, 2, -7, -5, 0, -14, 21}, {2, 3, -5, 7, 0, -15, 21}, {-3, -2, -5, 7, 0, -21, 15}, {-3, 2, -5, 7, 0, -21, 15}, {-2, 7, -7, 2, 0, -49, 14},
		{0, 0, -5, 7, 0, 0, 0}, {0, 3, 0, 5, 0, 0, 15}, {-3, 0, 0, 5, 0, -15, 0}, {-3, 0, -5, 0, 0, 0, 15}, {3, 3, 3, 3, 1, 4, 5}, {-3, -3, 3, 3, 1, -5, -4}, {1, 1, 1, 1, 480, 0, 1}, {-1, -1, 1, 1, 480, -1, 0},
	}
	for _, c := range cases {
		got, ok := impl.IvMul(smallIv(c.lo, c.hi), smallIv(c.low, c.high), c.p)
		if !ok || !sameIv(got, smallIv(c.least, c.most)) {
			t.Errorf("%+v: %v, %v", c, got, ok)
		}
	}
}

func TestIvDivNamedOnes(t *testing.T) {
	cases := []struct{ lo, hi, low, high, p, least, most int }{
		{-3, 5, 2, 4, 2, -6, 10}, {-3, 5, 2, 4, 0, -2, 3}, {3, 5, 2, 4, 0, 0, 3}, {-5, -3, 2, 4, 0, -3, 0}, {0, 0, 1, 9, 480, 0, 0}, {7, 7, 1, 1, 0, 7, 7}, {-7, -7, 1, 1, 0, -7, -7},
		{1, 1, 3, 3, 4, 5, 6}, {-1, -1, 3, 3, 4, -6, -5}, {-4, 4, 2, 2, 0, -2, 2}, {0, 6, 3, 4, 0, 0, 2}, {-6, 0, 3, 4, 0, -2, 0},
	}
	for _, c := range cases {
		got, ok := impl.IvDiv(smallIv(c.lo, c.hi), smallIv(c.low, c.high), c.p)
		if !ok || !sameIv(got, smallIv(c.least, c.most)) {
			t.Errorf("%+v: %v, %v", c, got, ok)
		}
	}
	for _, b := range []impl.Iv{smallIv(0, 0), smallIv(0, 5), smallIv(-1, 5), smallIv(-5, -1), smallIv(-1, 0)} {
		got, ok := impl.IvDiv(smallIv(1, 2), b, 3)
		refusedIv(t, "IvDiv by what is not above 0", got, ok)
	}
}

func TestIvMulAndDivOfGreatOnes(t *testing.T) {
	m := &mixer{state: 77777}
	ivs := goodIvs()
	for _, a := range ivs {
		for range 12 {
			b := ivs[m.below(len(ivs))]
			for _, p := range []int{0, 1, 24, 300, 479, 480} {
				checkIvMul(t, a, b, p)
				checkIvDiv(t, a, b, p)
			}
		}
	}
}

// Divisors from 1 on, short and long.
func TestIvDivByGreatOnes(t *testing.T) {
	m := &mixer{state: 99991}
	numbers := endNumbers()
	for _, a := range goodIvs() {
		low, high := new(big.Int).Abs(numbers[m.below(len(numbers))]), new(big.Int).Abs(numbers[m.below(len(numbers))])
		if low.Cmp(high) > 0 {
			low, high = high, low
		}
		for _, b := range []impl.Iv{ivOf(low, high), ivOf(big.NewInt(1), high), ivOf(high, high)} {
			checkIvDiv(t, a, b, m.below(481))
		}
	}
}

// A product may need more limbs than a number has; what counts is what is left of it behind the division.
func TestIvMulLongProducts(t *testing.T) {
	full := near(mostBits, -1)
	alone := func(n *big.Int) impl.Iv { return ivOf(n, n) }
	cases := []struct {
		name string
		a, b *big.Int
		p    int
		fits bool
	}{
		{"2^1151 times 1", near(1151, 0), big.NewInt(1), 0, true},
		{"2^576 times 2^575", near(576, 0), near(575, 0), 0, true},
		{"2^576 times 2^576", near(576, 0), near(576, 0), 0, false},
		{"2^576 times 2^576 by 2", near(576, 0), near(576, 0), 1, true},
		{"-2^576 times 2^576 by 2", negativeOf(near(576, 0)), near(576, 0), 1, true},
		{"full times 2 by 1", full, big.NewInt(2), 0, false},
		{"full times 2 by 2", full, big.NewInt(2), 1, true},
		{"full times 3 by 2", full, big.NewInt(3), 1, false},
		{"full times 2^480 by 2^480", full, near(480, 0), 480, true},
		{"full times 2^480 by 2^479", full, near(480, 0), 479, false},
		{"-full times (2^480 and 1) by 2^480", negativeOf(full), near(480, 1), 480, false},
		{"full times full by 2^480", full, full, 480, false},
		{"2^816 times 2^815 by 2^480", near(816, 0), near(815, 0), 480, true},
		{"2^816 times 2^816 by 2^480", near(816, 0), near(816, 0), 480, false},
	}
	for _, c := range cases {
		got, ok := impl.IvMul(alone(c.a), alone(c.b), c.p)
		if ok != c.fits {
			t.Errorf("%s: %v, %v", c.name, got, ok)
		}
		checkIvMul(t, alone(c.a), alone(c.b), c.p)
		checkIvMul(t, alone(c.b), alone(c.a), c.p)
	}
}

// What is divided may need more limbs when it is raised; so may what a root is taken of.
func TestIvDivAndRootOfLongOnes(t *testing.T) {
	full := near(mostBits, -1)
	alone := func(n *big.Int) impl.Iv { return ivOf(n, n) }
	cases := []struct {
		name string
		a, b *big.Int
		p    int
		fits bool
	}{
		{"full by 1", full, big.NewInt(1), 0, true}, {"full times 2 by 1", full, big.NewInt(1), 1, false}, {"full times 2 by 2", full, big.NewInt(2), 1, true},
		{"full times 2^480 by full", full, full, 480, true}, {"-full times 2^480 by 2^480", negativeOf(full), near(480, 0), 480, true},
		{"-full times 2^480 by (2^480 less 1)", negativeOf(full), near(480, -1), 480, false}, {"2^1151 times 2^480 by 2^480", near(1151, 0), near(480, 0), 480, true},
		{"2^1151 times 2^480 by 2^479", near(1151, 0), near(479, 0), 480, false},
	}
	for _, c := range cases {
		if got, ok := impl.IvDiv(alone(c.a), alone(c.b), c.p); ok != c.fits {
			t.Errorf("%s: %v, %v", c.name, got, ok)
		}
		checkIvDiv(t, alone(c.a), alone(c.b), c.p)
	}
	for _, p := range []int{0, 1, 479, 480} {
		if _, ok := impl.IvRoot(alone(full), p); !ok {
			t.Error("the root of the greatest number at", p)
		}
		checkIvRoot(t, alone(full), p)
	}
}

func TestIvShareByEachNumber(t *testing.T) {
	for _, v := range goodIvs() {
		lo, hi := endsOf(v)
		for _, n := range []int{1, 2, 3, 7, 1000, 65536, 999999, 1000000} {
			by := big.NewInt(int64(n))
			got, ok := impl.IvShare(v, n)
			checkIv(t, "IvShare", got, ok, floorOf(lo, by), ceilingOf(hi, by))
		}
		for _, n := range []int{0, -1, -2, 1000001, 1 << 32, math.MinInt, math.MaxInt} {
			got, ok := impl.IvShare(v, n)
			refusedIv(t, "IvShare by another n", got, ok)
		}
	}
	for n := 1; n <= 12; n++ {
		for lo := -15; lo <= 15; lo++ {
			for hi := lo; hi <= 15; hi += 4 {
				got, ok := impl.IvShare(smallIv(lo, hi), n)
				by := big.NewInt(int64(n))
				checkIv(t, "IvShare", got, ok, floorOf(big.NewInt(int64(lo)), by), ceilingOf(big.NewInt(int64(hi)), by))
			}
		}
	}
}

func TestIvRootOfEach(t *testing.T) {
	for lo := range 70 {
		for hi := lo; hi < 70; hi += 5 {
			for p := range 4 {
				checkIvRoot(t, smallIv(lo, hi), p)
			}
		}
	}
	for _, v := range goodIvs() {
		for _, p := range []int{0, 1, 2, 23, 24, 301, 479, 480} {
			checkIvRoot(t, v, p)
		}
	}
	for _, v := range []impl.Iv{smallIv(-1, 0), smallIv(-1, 5), smallIv(-5, -2)} {
		for _, p := range []int{0, 1, 480} {
			got, ok := impl.IvRoot(v, p)
			refusedIv(t, "IvRoot of what is below 0", got, ok)
		}
	}
}

func TestIvRootsAboutSquares(t *testing.T) {
	m := &mixer{state: 31337}
	for range 40 {
		root := bigOf(m.list(1 + m.below(24)))
		square := new(big.Int).Mul(root, root)
		for d := int64(-1); d <= 1; d++ {
			n := new(big.Int).Add(square, big.NewInt(d))
			for _, p := range []int{0, 1, 2, 480} {
				checkIvRoot(t, ivOf(n, n), p)
				checkIvRoot(t, ivOf(square, new(big.Int).Add(n, big.NewInt(1))), p)
			}
		}
		got, ok := impl.IvRoot(ivOf(square, square), 0)
		checkIv(t, "the root of a square", got, ok, root, root)
	}
}

func TestIvMulDivAndRootRefuse(t *testing.T) {
	good := smallIv(2, 3)
	refused := func(name string, a impl.Iv, b impl.Iv, p int) {
		t.Helper()
		got, ok := impl.IvMul(a, b, p)
		refusedIv(t, "IvMul: "+name, got, ok)
		got, ok = impl.IvDiv(a, b, p)
		refusedIv(t, "IvDiv: "+name, got, ok)
	}
	for _, p := range noPlaces {
		refused("no such p", good, good, p)
		refused("no such p of 0", impl.Iv{}, good, p)
		got, ok := impl.IvRoot(good, p)
		refusedIv(t, "IvRoot: no such p", got, ok)
		got, ok = impl.IvRoot(impl.Iv{}, p)
		refusedIv(t, "IvRoot of 0: no such p", got, ok)
	}
	for _, bad := range badIvs() {
		refused("what is none in the first place", bad, good, 3)
		refused("what is none in the second place", good, bad, 3)
		refused("what is none in both places", bad, bad, 0)
		got, ok := impl.IvShare(bad, 2)
		refusedIv(t, "IvShare of what is none", got, ok)
		got, ok = impl.IvRoot(bad, 2)
		refusedIv(t, "IvRoot of what is none", got, ok)
	}
}

// Promise 29: every function answers at any arguments, and writes into none.

func TestIvMulWritesIntoNothingAndSharesNothing(t *testing.T) {
	defer mustNotPanic(t)
	ivs := append(goodIvs(), badIvs()...)
	numbers := []int{math.MinInt, -1, 0, 1, 480, 481, 1000000, 1000001, math.MaxInt}
	m := &mixer{state: 424242}
	for _, v := range ivs {
		x, rooms := layIv(v)
		for _, n := range numbers {
			share, _ := impl.IvShare(x, n)
			root, _ := impl.IvRoot(x, n)
			square, _ := impl.IvMul(x, x, n)
			one, _ := impl.IvDiv(x, x, n)
			checkApart(t, "IvShare, IvRoot, IvMul or IvDiv", rooms, share.Lo.Mag, share.Hi.Mag, root.Lo.Mag, root.Hi.Mag, square.Lo.Mag, square.Hi.Mag, one.Lo.Mag, one.Hi.Mag)
			y, others := layIv(ivs[m.below(len(ivs))])
			product, _ := impl.IvMul(x, y, n)
			quotient, _ := impl.IvDiv(x, y, n)
			checkApart(t, "IvMul or IvDiv", append(rooms, others...), product.Lo.Mag, product.Hi.Mag, quotient.Lo.Mag, quotient.Hi.Mag)
		}
	}
}
