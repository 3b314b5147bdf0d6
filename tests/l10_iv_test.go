package tests

import (
	"math"
	"math/big"
	"testing"

	"loop.example/g00481/impl"
)

// Promise 10: nothing that was held is lost.

func ivOf(lo *big.Int, hi *big.Int) impl.Iv { return impl.Iv{Lo: wholeOf(lo), Hi: wholeOf(hi)} }

func smallIv(lo int, hi int) impl.Iv { return ivOf(big.NewInt(int64(lo)), big.NewInt(int64(hi))) }

func sameIv(a impl.Iv, b impl.Iv) bool { return sameWhole(a.Lo, b.Lo) && sameWhole(a.Hi, b.Hi) }

func negativeOf(n *big.Int) *big.Int { return new(big.Int).Neg(n) }

func floorOf(a *big.Int, b *big.Int) *big.Int { return roundedFrac(a, b, impl.MdDown) }

func ceilingOf(a *big.Int, b *big.Int) *big.Int { return roundedFrac(a, b, impl.MdUp) }

// What is answered with true goes from lo to hi; with false it is zero, and one end does not fit.
func checkIv(t *testing.T, name string, got impl.Iv, ok bool, lo *big.Int, hi *big.Int) {
	t.Helper()
	if !fitsWhole(lo) || !fitsWhole(hi) {
		refusedIv(t, name, got, ok)
		return
	}
	if !ok || !impl.IvOk(got) || !sameIv(got, ivOf(lo, hi)) {
		t.Fatalf("%s = %v, %v, want from %v to %v", name, got, ok, lo, hi)
	}
}

func refusedIv(t *testing.T, name string, got impl.Iv, ok bool) {
	t.Helper()
	refusedWhole(t, name, got.Lo, ok)
	refusedWhole(t, name, got.Hi, ok)
}

// Numbers that stand at ends: small ones, great ones, and such as are at the edge of what there is.
func endNumbers() []*big.Int {
	out := []*big.Int{new(big.Int)}
	above := []*big.Int{
		big.NewInt(1), big.NewInt(2), big.NewInt(3), big.NewInt(7), big.NewInt(8), big.NewInt(1000000), big.NewInt(base - 1), big.NewInt(base), big.NewInt(base + 1),
		near(63, 0), near(64, -1), near(479, 0), near(480, 1), near(575, 1), near(576, -1), near(576, 0), near(mostBits-1, 0), near(mostBits, -1000001), near(mostBits, -1000000), near(mostBits, -2), near(mostBits, -1),
	}
	m := &mixer{state: 362436069}
	for _, limbs := range []int{1, 2, 3, 20, 24, 47, 48} {
		above = append(above, bigOf(m.list(limbs)))
	}
	for _, n := range above {
		out = append(out, n, negativeOf(n))
	}
	return out
}

// Pairs of ends, the lesser first; every third also with both the same.
func goodIvs() []impl.Iv {
	var out []impl.Iv
	numbers := endNumbers()
	m := &mixer{state: 521288629}
	for i, lo := range numbers {
		for range 3 {
			hi := numbers[m.below(len(numbers))]
			if lo.Cmp(hi) > 0 {
				out = append(out, ivOf(hi, lo))
			} else {
				out = append(out, ivOf(lo, hi))
			}
		}
		if i%3 == 0 {
			out = append(out, ivOf(lo, lo))
		}
	}
	for _, c := range [][2]int{{0, 0}, {0, 1}, {-1, 0}, {-1, 1}, {1, 1}, {-1, -1}, {-3, 5}, {-2, 7}, {1, 2}, {2, 4}, {-7, -2}, {-5, 3}, {15, 17}} {
		out = append(out, smallIv(c[0], c[1]))
	}
	full := near(mostBits, -1)
	return append(out, ivOf(negativeOf(full), full), ivOf(full, full), ivOf(negativeOf(full), negativeOf(full)), ivOf(new(big.Int), full))
}

// The lesser end above the greater one, and ends that are no numbers.
func badIvs() []impl.Iv {
	full := near(mostBits, -1)
	out := []impl.Iv{smallIv(2, 1), smallIv(1, -1), smallIv(0, -1), smallIv(-1, -2), ivOf(full, negativeOf(full)), ivOf(full, near(mostBits, -2)), ivOf(negativeOf(near(mostBits, -2)), negativeOf(full))}
	for _, bad := range badWholes() {
		out = append(out, impl.Iv{Lo: bad, Hi: impl.WholeOf(5)}, impl.Iv{Lo: impl.WholeOf(-5), Hi: bad}, impl.Iv{Lo: bad, Hi: bad})
	}
	return out
}

func endsOf(v impl.Iv) (*big.Int, *big.Int) { return bigOfWhole(v.Lo), bigOfWhole(v.Hi) }

func briefIv(v impl.Iv) impl.Iv { return impl.Iv{Lo: shortened(v.Lo), Hi: shortened(v.Hi)} }

func layIv(v impl.Iv) (impl.Iv, []laid) {
	lo, first := layWhole(v.Lo)
	hi, second := layWhole(v.Hi)
	return impl.Iv{Lo: lo, Hi: hi}, []laid{first, second}
}

func TestIvOkTellsIvs(t *testing.T) {
	if impl.MaxP != 480 {
		t.Error("MaxP", impl.MaxP)
	}
	for _, v := range goodIvs() {
		if !impl.IvOk(v) {
			t.Errorf("IvOk(%v) is false", v)
		}
	}
	for _, v := range badIvs() {
		if impl.IvOk(v) {
			t.Errorf("IvOk(%v) is true", briefIv(v))
		}
	}
	if !impl.IvOk(impl.Iv{}) {
		t.Error("0 alone is refused")
	}
}

func TestIvOfIsOneNumber(t *testing.T) {
	for _, a := range goodWholes() {
		got := impl.IvOf(a)
		checkIv(t, "IvOf", got, true, bigOfWhole(a), bigOfWhole(a))
		if shareMemory(got.Lo.Mag, got.Hi.Mag) {
			t.Fatal("the ends share memory")
		}
	}
	for _, a := range badWholes() {
		refusedIv(t, "IvOf of what is no number", impl.IvOf(a), false)
	}
}

func TestIvSumsAndDifferences(t *testing.T) {
	for _, a := range goodIvs() {
		lo, hi := endsOf(a)
		checkIv(t, "IvNeg", impl.IvNeg(a), true, negativeOf(hi), negativeOf(lo))
		for _, b := range goodIvs() {
			low, high := endsOf(b)
			sum, ok := impl.IvAdd(a, b)
			checkIv(t, "IvAdd", sum, ok, new(big.Int).Add(lo, low), new(big.Int).Add(hi, high))
			difference, ok := impl.IvSub(a, b)
			checkIv(t, "IvSub", difference, ok, new(big.Int).Sub(lo, high), new(big.Int).Sub(hi, low))
		}
	}
}

func TestIvMeetAndIn(t *testing.T) {
	for _, a := range goodIvs() {
		lo, hi := endsOf(a)
		for _, b := range goodIvs() {
			low, high := endsOf(b)
			if got := impl.IvMeet(a, b); got != (lo.Cmp(high) <= 0 && low.Cmp(hi) <= 0) {
				t.Fatalf("IvMeet(%v, %v) is %v", a, b, got)
			}
			if got := impl.IvIn(a, b); got != (lo.Cmp(low) >= 0 && hi.Cmp(high) <= 0) {
				t.Fatalf("IvIn(%v, %v) is %v", a, b, got)
			}
		}
	}
}

// Each number that both hold is sought one by one.
func TestIvMeetAndInOfSmallOnes(t *testing.T) {
	for lo := -3; lo <= 3; lo++ {
		for hi := lo; hi <= 3; hi++ {
			for low := -3; low <= 3; low++ {
				for high := low; high <= 3; high++ {
					common, left := false, false
					for n := lo; n <= hi; n++ {
						inside := n >= low && n <= high
						common = common || inside
						left = left || !inside
					}
					a, b := smallIv(lo, hi), smallIv(low, high)
					if impl.IvMeet(a, b) != common || impl.IvMeet(b, a) != common || impl.IvIn(a, b) != !left {
						t.Errorf("%d to %d and %d to %d: %v, %v", lo, hi, low, high, impl.IvMeet(a, b), impl.IvIn(a, b))
					}
				}
			}
		}
	}
	if !impl.IvMeet(smallIv(-3, 5), smallIv(5, 9)) || impl.IvMeet(smallIv(-3, 5), smallIv(6, 9)) {
		t.Error("touching and missing by one")
	}
}

func TestIvWideByEachNumber(t *testing.T) {
	for _, v := range goodIvs() {
		lo, hi := endsOf(v)
		for _, n := range []int{0, 1, 2, 3, base, 999999, 1000000} {
			got, ok := impl.IvWide(v, n)
			if n > 1000000 {
				refusedIv(t, "IvWide by too many", got, ok)
				continue
			}
			by := big.NewInt(int64(n))
			checkIv(t, "IvWide", got, ok, new(big.Int).Sub(lo, by), new(big.Int).Add(hi, by))
			if ok && !impl.IvIn(v, got) {
				t.Fatalf("IvWide(%v, %d) has lost some", v, n)
			}
		}
		for _, n := range []int{-1, -2, -1000000, 1000001, math.MinInt, math.MaxInt} {
			got, ok := impl.IvWide(v, n)
			refusedIv(t, "IvWide by another n", got, ok)
		}
	}
}

func TestIvMoveToEachPlace(t *testing.T) {
	shifts := [][2]int{{0, 0}, {480, 480}, {7, 7}, {0, 1}, {1, 0}, {4, 3}, {3, 4}, {0, 24}, {24, 0}, {25, 1}, {0, 480}, {480, 0}, {479, 480}, {480, 479}, {100, 40}, {40, 100}, {316, 300}}
	for _, v := range goodIvs() {
		lo, hi := endsOf(v)
		for _, s := range shifts {
			p, q := s[0], s[1]
			got, ok := impl.IvMove(v, p, q)
			up := near(max(q-p, 0), 0)
			down := near(max(p-q, 0), 0)
			low, high := new(big.Int).Mul(lo, up), new(big.Int).Mul(hi, up)
			checkIv(t, "IvMove", got, ok, floorOf(low, down), ceilingOf(high, down))
		}
		for _, s := range [][2]int{{-1, 0}, {0, -1}, {-1, -1}, {481, 480}, {480, 481}, {481, 481}, {math.MinInt, 0}, {0, math.MinInt}, {math.MaxInt, 480}, {480, math.MaxInt}, {math.MinInt, math.MaxInt}, {math.MaxInt, math.MinInt}, {math.MaxInt, math.MaxInt}} {
			got, ok := impl.IvMove(v, s[0], s[1])
			refusedIv(t, "IvMove to no place", got, ok)
		}
	}
}

func TestIvMoveNamedOnes(t *testing.T) {
	cases := []struct{ lo, hi, p, q, low, high int }{
		{-3, 5, 4, 3, -2, 3}, {-4, 4, 4, 3, -2, 2}, {3, 3, 1, 0, 1, 2}, {-3, -3, 1, 0, -2, -1}, {1, 1, 480, 0, 0, 1}, {-1, -1, 480, 0, -1, 0}, {0, 0, 480, 0, 0, 0},
		{-3, 5, 0, 4, -48, 80}, {7, 9, 3, 0, 0, 2}, {-9, -7, 3, 0, -2, 0}, {-8, 8, 3, 0, -1, 1}, {-3, 5, 480, 480, -3, 5},
	}
	for _, c := range cases {
		got, ok := impl.IvMove(smallIv(c.lo, c.hi), c.p, c.q)
		if !ok || !sameIv(got, smallIv(c.low, c.high)) {
			t.Errorf("IvMove of %d to %d from %d to %d: %v, %v", c.lo, c.hi, c.p, c.q, got, ok)
		}
	}
}

// There and back nothing is lost: what comes back holds what was.
func TestIvMoveLosesNothing(t *testing.T) {
	for _, v := range goodIvs() {
		for _, s := range [][2]int{{480, 0}, {24, 23}, {100, 51}, {0, 480}, {7, 7}, {300, 316}} {
			there, ok := impl.IvMove(v, s[0], s[1])
			if !ok {
				continue
			}
			back, ok := impl.IvMove(there, s[1], s[0])
			if ok && !impl.IvIn(v, back) {
				t.Fatalf("%v moved from %d to %d and back is %v", v, s[0], s[1], back)
			}
			if ok && s[0] <= s[1] && !sameIv(v, back) {
				t.Fatalf("%v moved from %d to %d and back is %v", v, s[0], s[1], back)
			}
		}
	}
}

func TestIvWidthOfEach(t *testing.T) {
	for _, v := range goodIvs() {
		lo, hi := endsOf(v)
		if got := impl.IvWidth(v); !sameWhole(got, wholeOf(new(big.Int).Sub(hi, lo))) {
			t.Errorf("IvWidth(%v) = %v", v, got)
		}
	}
	for _, v := range badIvs() {
		refusedWhole(t, "IvWidth of what is none", impl.IvWidth(v), false)
	}
	full := near(mostBits, -1)
	wide := impl.IvWidth(ivOf(negativeOf(full), full))
	if len(wide.Mag) != mostLimbs+1 || wide.Neg || !sameWhole(wide, wholeOf(near(mostBits+1, -2))) {
		t.Error("the widest one has", len(wide.Mag), "limbs")
	}
}

func TestIvNeedsALimbMore(t *testing.T) {
	full, one := near(mostBits, -1), big.NewInt(1)
	most, least := ivOf(full, full), ivOf(negativeOf(full), negativeOf(full))
	across := ivOf(negativeOf(full), full)
	cases := []struct {
		name string
		do   func() (impl.Iv, bool)
		fits bool
	}{
		{"full and 1", func() (impl.Iv, bool) { return impl.IvAdd(most, ivOf(one, one)) }, false},
		{"full and 0 to 1", func() (impl.Iv, bool) { return impl.IvAdd(most, smallIv(0, 1)) }, false},
		{"full and -1 to 0", func() (impl.Iv, bool) { return impl.IvAdd(most, smallIv(-1, 0)) }, true},
		{"-full and -1 to 0", func() (impl.Iv, bool) { return impl.IvAdd(least, smallIv(-1, 0)) }, false},
		{"-full less 0 to 1", func() (impl.Iv, bool) { return impl.IvSub(least, smallIv(0, 1)) }, false},
		{"full less -1 to 0", func() (impl.Iv, bool) { return impl.IvSub(most, smallIv(-1, 0)) }, false},
		{"full less 0 to 1", func() (impl.Iv, bool) { return impl.IvSub(most, smallIv(0, 1)) }, true},
		{"full less full", func() (impl.Iv, bool) { return impl.IvSub(most, most) }, true},
		{"across, and 0", func() (impl.Iv, bool) { return impl.IvAdd(across, smallIv(0, 0)) }, true},
		{"across, wider by 0", func() (impl.Iv, bool) { return impl.IvWide(across, 0) }, true},
		{"across, wider by 1", func() (impl.Iv, bool) { return impl.IvWide(across, 1) }, false},
		{"0 to full, wider by 1", func() (impl.Iv, bool) { return impl.IvWide(ivOf(new(big.Int), full), 1) }, false},
		{"full, up by 1", func() (impl.Iv, bool) { return impl.IvMove(most, 0, 1) }, false},
		{"full, down by 1", func() (impl.Iv, bool) { return impl.IvMove(most, 1, 0) }, true},
	}
	for _, c := range cases {
		got, ok := c.do()
		if ok != c.fits || (ok && !impl.IvOk(got)) {
			t.Errorf("%s: %v, %v", c.name, got, ok)
		}
		if !c.fits {
			refusedIv(t, c.name, got, ok)
		}
	}
}

func TestIvRefusesInEitherPlace(t *testing.T) {
	others := append(badIvs()[:30], goodIvs()[:20]...)
	for _, a := range badIvs() {
		refusedIv(t, "IvNeg of what is none", impl.IvNeg(a), false)
		got, ok := impl.IvWide(a, 1)
		refusedIv(t, "IvWide of what is none", got, ok)
		got, ok = impl.IvMove(a, 5, 5)
		refusedIv(t, "IvMove of what is none", got, ok)
		for _, b := range others {
			if impl.IvMeet(a, b) || impl.IvMeet(b, a) || impl.IvIn(a, b) || impl.IvIn(b, a) {
				t.Fatalf("%v meets, or is in, %v", briefIv(a), briefIv(b))
			}
			for _, do := range []func(impl.Iv, impl.Iv) (impl.Iv, bool){impl.IvAdd, impl.IvSub} {
				got, ok := do(a, b)
				refusedIv(t, "what is none in the first place", got, ok)
				got, ok = do(b, a)
				refusedIv(t, "what is none in the second place", got, ok)
			}
		}
	}
}

// Promise 29: every function answers at any arguments, and writes into none.

func TestIvWritesIntoNothingAndSharesNothing(t *testing.T) {
	defer mustNotPanic(t)
	ivs := append(goodIvs(), badIvs()...)
	numbers := []int{math.MinInt, -1, 0, 1, 24, 480, 481, 1000000, math.MaxInt}
	for _, v := range ivs {
		x, rooms := layIv(v)
		impl.IvOk(x)
		width, negative, alone := impl.IvWidth(x), impl.IvNeg(x), impl.IvOf(x.Lo)
		checkApart(t, "IvOk, IvWidth, IvNeg or IvOf", rooms, width.Mag, negative.Lo.Mag, negative.Hi.Mag, alone.Lo.Mag, alone.Hi.Mag)
		for _, n := range numbers {
			wide, _ := impl.IvWide(x, n)
			checkApart(t, "IvWide", rooms, wide.Lo.Mag, wide.Hi.Mag)
			for _, q := range numbers {
				move, _ := impl.IvMove(x, n, q)
				checkApart(t, "IvMove", rooms, move.Lo.Mag, move.Hi.Mag)
			}
		}
	}
	for _, a := range ivs {
		x, first := layIv(briefIv(a))
		for _, b := range ivs[:60] {
			y, second := layIv(briefIv(b))
			rooms := append(first, second...)
			impl.IvMeet(x, y)
			impl.IvIn(x, y)
			sum, _ := impl.IvAdd(x, y)
			difference, _ := impl.IvSub(x, y)
			checkApart(t, "IvMeet, IvIn, IvAdd or IvSub", rooms, sum.Lo.Mag, sum.Hi.Mag, difference.Lo.Mag, difference.Hi.Mag)
		}
		twice, _ := impl.IvAdd(x, x)
		nothing, _ := impl.IvSub(x, x)
		checkApart(t, "one Iv twice", first, twice.Lo.Mag, twice.Hi.Mag, nothing.Lo.Mag, nothing.Hi.Mag)
	}
}

// Both ends may be one list.
func TestIvEndsThatAreOneList(t *testing.T) {
	a, room := layWhole(impl.WholeOf(-123456789))
	v := impl.Iv{Lo: a, Hi: a}
	same, _ := impl.IvMove(v, 3, 3)
	negative := impl.IvNeg(v)
	sum, _ := impl.IvAdd(v, v)
	checkApart(t, "an Iv of one list", []laid{room}, same.Lo.Mag, same.Hi.Mag, negative.Lo.Mag, negative.Hi.Mag, sum.Lo.Mag, sum.Hi.Mag)
}
