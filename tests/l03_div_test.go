package tests

import (
	"math"
	"math/big"
	"slices"
	"strings"
	"testing"

	"loop.example/g00481/impl"
)

// Promise 3: quotient, divisor and rest make the number again.

func checkDiv(t *testing.T, a []int, b []int) {
	t.Helper()
	q, r, ok := impl.NatDiv(a, b)
	if len(b) == 0 {
		if ok || len(q) != 0 || len(r) != 0 {
			t.Fatalf("NatDiv(%v, 0) = %v, %v, %v", a, q, r, ok)
		}
		return
	}
	quotient, rest := new(big.Int).QuoRem(bigOf(a), bigOf(b), new(big.Int))
	checkNat(t, "the quotient", q, ok, quotient)
	checkNat(t, "the rest", r, ok, rest)
	product, _ := impl.NatMul(q, b)
	again, fine := impl.NatAdd(product, r)
	if !fine || !slices.Equal(again, a) || impl.NatCmp(r, b) != -1 {
		t.Fatalf("%v times %v and %v is %v, not %v", q, b, r, again, a)
	}
}

func TestNatDivMakesTheNumberAgain(t *testing.T) {
	for _, a := range goodLists() {
		for _, b := range goodLists() {
			checkDiv(t, a, b)
		}
	}
}

func TestNatDivOfSmallNumbers(t *testing.T) {
	for a := range 60 {
		for b := range 60 {
			x, _ := impl.NatOf(a)
			y, _ := impl.NatOf(b)
			checkDiv(t, x, y)
		}
	}
}

// About the multiples of a divisor, where a bit more or less is seen.
func TestNatDivAboutMultiples(t *testing.T) {
	m := &mixer{state: 362436069}
	for range 400 {
		b := bigOf(m.list(1 + m.below(24)))
		q := bigOf(m.list(m.below(25)))
		for d := int64(-1); d <= 1; d++ {
			a := new(big.Int).Mul(b, q)
			a.Add(a, big.NewInt(d))
			if fits(a) {
				checkDiv(t, listOf(a), listOf(b))
			}
		}
	}
}

func TestNatDivOfNamedNumbers(t *testing.T) {
	full := slices.Repeat([]int{base - 1}, mostLimbs)
	cases := []struct{ a, b, q, r []int }{
		{nil, []int{1}, nil, nil},
		{nil, full, nil, nil},
		{[]int{7}, []int{1}, []int{7}, nil},
		{[]int{7}, []int{7}, []int{1}, nil},
		{[]int{7}, []int{8}, nil, []int{7}},
		{[]int{7}, []int{3}, []int{2}, []int{1}},
		{full, []int{1}, full, nil},
		{full, full, []int{1}, nil},
		{listOf(near(mostBits, -2)), full, nil, listOf(near(mostBits, -2))},
		{full, listOf(near(mostBits, -2)), []int{1}, []int{1}},
		{full, []int{0, 1}, slices.Repeat([]int{base - 1}, mostLimbs-1), []int{base - 1}},
		{full, listOf(near(576, 1)), listOf(near(576, -1)), nil},
	}
	for _, c := range cases {
		q, r, ok := impl.NatDiv(c.a, c.b)
		if !ok || !slices.Equal(q, c.q) || !slices.Equal(r, c.r) {
			t.Errorf("NatDiv(%v, %v) = %v, %v, %v", c.a, c.b, q, r, ok)
		}
	}
}

func checkRoot(t *testing.T, n *big.Int) {
	t.Helper()
	if fits(n) {
		root, ok := impl.NatRoot(listOf(n))
		checkNat(t, "NatRoot", root, ok, new(big.Int).Sqrt(n))
	}
}

func TestNatRootIsTheFloor(t *testing.T) {
	for n := range int64(5000) {
		checkRoot(t, big.NewInt(n))
	}
	for _, a := range goodLists() {
		checkRoot(t, bigOf(a))
	}
	for k := range mostBits {
		checkRoot(t, near(k, -1))
		checkRoot(t, near(k, 0))
	}
}

func TestNatRootAboutSquares(t *testing.T) {
	m := &mixer{state: 521288629}
	sizes := []*big.Int{near(575, 0), near(575, -1), near(576, -1), near(576, -2)}
	for range 300 {
		sizes = append(sizes, bigOf(m.list(1+m.below(24))))
	}
	for _, n := range sizes {
		square := new(big.Int).Mul(n, n)
		root, ok := impl.NatRoot(listOf(square))
		checkNat(t, "the root of a square", root, ok, n)
		root, ok = impl.NatRoot(listOf(new(big.Int).Sub(square, big.NewInt(1))))
		checkNat(t, "the root of one below a square", root, ok, new(big.Int).Sub(n, big.NewInt(1)))
		root, ok = impl.NatRoot(listOf(new(big.Int).Add(square, big.NewInt(1))))
		checkNat(t, "the root of one above a square", root, ok, n)
	}
}

func TestNatPowOfEachExponent(t *testing.T) {
	for _, n := range []int{0, 1, 2, 3, 5, 7, 10, 255, 256, 257, 4096, 10000000, base - 2, base - 1} {
		want := big.NewInt(1)
		for k := 0; k <= 1000; k++ {
			got, ok := impl.NatPow(n, k)
			checkNat(t, "NatPow", got, ok, want)
			want = new(big.Int).Mul(want, big.NewInt(int64(n)))
		}
	}
}

func TestNatPowEdges(t *testing.T) {
	cases := []struct {
		n, k  int
		limbs int
	}{
		{0, 0, 1}, {0, 1, 0}, {0, 1000, 0}, {1, 1000, 1},
		{base - 1, 0, 1}, {base - 1, 1, 1}, {base - 1, 48, mostLimbs},
		{2, 1000, 42}, {4, 575, mostLimbs}, {8, 383, mostLimbs},
	}
	for _, c := range cases {
		if got, ok := impl.NatPow(c.n, c.k); !ok || len(got) != c.limbs {
			t.Errorf("NatPow(%d, %d) = %v, %v", c.n, c.k, got, ok)
		}
	}
	wrong := [][2]int{
		{-1, 0}, {-1, 1}, {-1, 2}, {base, 0}, {base, 1}, {0, -1}, {1, -1}, {base - 1, -1},
		{0, 1001}, {1, 1001}, {2, 1001}, {base - 1, 49}, {base - 1, 1000}, {4, 576}, {8, 384}, {3, 1000},
		{math.MinInt, 1}, {math.MaxInt, 1}, {1, math.MinInt}, {1, math.MaxInt}, {math.MaxInt, math.MaxInt},
	}
	for _, c := range wrong {
		if got, ok := impl.NatPow(c[0], c[1]); ok || len(got) != 0 {
			t.Errorf("NatPow(%d, %d) = %v, %v, want nothing and false", c[0], c[1], got, ok)
		}
	}
}

// A text is read as the number that it was.
func checkText(t *testing.T, n *big.Int) {
	t.Helper()
	if got := impl.NatText(listOf(n)); got != n.String() {
		t.Fatalf("NatText of %v = %q", n, got)
	}
	got, ok := impl.NatFrom(n.String())
	checkNat(t, "NatFrom", got, ok, n)
}

func TestNatTextIsReadAsItWas(t *testing.T) {
	for n := range int64(3000) {
		checkText(t, big.NewInt(n))
	}
	for _, a := range goodLists() {
		checkText(t, bigOf(a))
	}
	ten := big.NewInt(1)
	for range 347 {
		for d := int64(-1); d <= 1; d++ {
			checkText(t, new(big.Int).Add(ten, big.NewInt(d)))
		}
		ten = new(big.Int).Mul(ten, big.NewInt(10))
	}
}

func TestNatTextOfNamedNumbers(t *testing.T) {
	cases := []struct {
		a    []int
		want string
	}{
		{nil, "0"}, {[]int{}, "0"}, {[]int{7}, "7"}, {[]int{10000000}, "10000000"}, {[]int{base - 1}, "16777215"},
		{[]int{0, 1}, "16777216"}, {listOf(near(64, 0)), "18446744073709551616"},
	}
	for _, c := range cases {
		if got := impl.NatText(c.a); got != c.want {
			t.Errorf("NatText(%v) = %q", c.a, got)
		}
	}
}

func TestNatFromRefuses(t *testing.T) {
	most := near(mostBits, -1).String()
	if got, ok := impl.NatFrom(most); !ok || len(got) != mostLimbs {
		t.Error("the greatest one is refused")
	}
	cases := []string{
		"", "-", "+", "-0", "+0", "-1", "+1", "00", "01", "007", "0" + most, strings.Repeat("0", 347),
		" 1", "1 ", "1\n", "1.0", "1e3", "0x1", "1_000", "a", "1a", "a1", "/", ":", "1/", "1:", "1\x00", "\x001", "\xff", "1\xb1", "\u0661", "²",
		most + "0", most + "a", most + "-", near(mostBits, 0).String(), near(mostBits, 1).String(), near(mostBits+1, 0).String(),
		"1" + strings.Repeat("0", 347), strings.Repeat("9", 347), strings.Repeat("9", 348), strings.Repeat("1", 1<<20), strings.Repeat("1", 1<<20) + "x",
	}
	for _, s := range cases {
		if got, ok := impl.NatFrom(s); ok || len(got) != 0 {
			t.Errorf("NatFrom(%q) = %v, %v, want nothing and false", s[:min(len(s), 400)], got, ok)
		}
	}
}

// Of short texts NatFrom must know just those that NatText tells.
func TestNatFromOfAllShortTexts(t *testing.T) {
	known := map[string][]int{}
	for n := range 100 {
		a, _ := impl.NatOf(n)
		known[impl.NatText(a)] = a
	}
	check := func(s string) {
		want, is := known[s]
		if got, ok := impl.NatFrom(s); ok != is || !slices.Equal(got, want) {
			t.Errorf("NatFrom(%q) = %v, %v", s, got, ok)
		}
	}
	for i := range 256 {
		check(string([]byte{byte(i)}))
		for j := range 256 {
			check(string([]byte{byte(i), byte(j)}))
		}
	}
}

func TestDivRefusesWhatIsNoGreatNumber(t *testing.T) {
	for _, a := range badLists() {
		for _, b := range append(goodLists(), badLists()...) {
			if q, r, ok := impl.NatDiv(a, b); ok || len(q) != 0 || len(r) != 0 {
				t.Errorf("NatDiv takes %v", a[:min(len(a), 50)])
			}
			if q, r, ok := impl.NatDiv(b, a); ok || len(q) != 0 || len(r) != 0 {
				t.Errorf("NatDiv divides by %v", a[:min(len(a), 50)])
			}
		}
		if root, ok := impl.NatRoot(a); ok || len(root) != 0 {
			t.Errorf("NatRoot takes %v", a[:min(len(a), 50)])
		}
		if text := impl.NatText(a); text != "" {
			t.Errorf("NatText(%v) = %q", a[:min(len(a), 50)], text)
		}
	}
}

// Promise 29: every function answers at any arguments, and writes into none.

func TestDivWritesIntoNothingAndSharesNothing(t *testing.T) {
	defer mustNotPanic(t)
	lists := append(goodLists(), badLists()...)
	for _, a := range lists {
		x := lay(a)
		root, _ := impl.NatRoot(x.list)
		checkApart(t, "NatRoot", []laid{x}, root)
		impl.NatText(x.list)
		checkApart(t, "NatText", []laid{x})
		for _, b := range lists {
			y := lay(b)
			q, r, _ := impl.NatDiv(x.list, y.list)
			checkApart(t, "NatDiv", []laid{x, y}, q, r)
		}
		q, r, _ := impl.NatDiv(x.list, x.list)
		checkApart(t, "NatDiv by itself", []laid{x}, q, r)
	}
	for _, n := range edgeNumbers() {
		for _, k := range edgeNumbers() {
			impl.NatPow(n, k)
		}
	}
	for _, s := range edgeTexts() {
		impl.NatFrom(s)
	}
}
