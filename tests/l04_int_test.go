package tests

import (
	"math"
	"math/big"
	"slices"
	"testing"

	"loop.example/g00481/impl"
)

// Promise 4: numbers with a sign are added, multiplied and ordered as numbers are.

func bigOfWhole(a impl.Whole) *big.Int {
	n := bigOf(a.Mag)
	if a.Neg {
		n.Neg(n)
	}
	return n
}

func wholeOf(n *big.Int) impl.Whole {
	return impl.Whole{Neg: n.Sign() < 0, Mag: listOf(new(big.Int).Abs(n))}
}

func fitsWhole(n *big.Int) bool { return n.BitLen() <= mostBits }

func sameWhole(a impl.Whole, b impl.Whole) bool {
	return a.Neg == b.Neg && slices.Equal(a.Mag, b.Mag)
}

// Each great number with either sign.
func goodWholes() []impl.Whole {
	var out []impl.Whole
	for _, a := range goodLists() {
		out = append(out, impl.Whole{Mag: a})
		if len(a) > 0 {
			out = append(out, impl.Whole{Neg: true, Mag: a})
		}
	}
	return out
}

func badWholes() []impl.Whole {
	out := []impl.Whole{{Neg: true}, {Neg: true, Mag: []int{}}}
	for _, a := range badLists() {
		out = append(out, impl.Whole{Mag: a}, impl.Whole{Neg: true, Mag: a})
	}
	return out
}

func layWhole(a impl.Whole) (impl.Whole, laid) {
	l := lay(a.Mag)
	return impl.Whole{Neg: a.Neg, Mag: l.list}, l
}

func shortened(a impl.Whole) impl.Whole {
	return impl.Whole{Neg: a.Neg, Mag: a.Mag[:min(len(a.Mag), 50)]}
}

// What is answered with true is want; with false it is zero, and want does not fit.
func checkWhole(t *testing.T, name string, got impl.Whole, ok bool, want *big.Int) {
	t.Helper()
	if !fitsWhole(want) {
		refusedWhole(t, name, got, ok)
		return
	}
	if !ok || !impl.WholeOk(got) || !sameWhole(got, wholeOf(want)) {
		t.Fatalf("%s = %v, %v, want %v", name, got, ok, wholeOf(want))
	}
}

func refusedWhole(t *testing.T, name string, got impl.Whole, ok bool) {
	t.Helper()
	if ok || got.Neg || len(got.Mag) != 0 {
		t.Fatalf("%s = %v, %v, want zero and false", name, got, ok)
	}
}

func TestWholeOkTellsNumbers(t *testing.T) {
	for _, a := range goodWholes() {
		if !impl.WholeOk(a) {
			t.Errorf("WholeOk(%v) is false", a)
		}
	}
	for _, a := range badWholes() {
		if impl.WholeOk(a) {
			t.Errorf("WholeOk(%v) is true", shortened(a))
		}
	}
	if !impl.WholeOk(impl.Whole{}) || !impl.WholeOk(impl.Whole{Mag: []int{}}) {
		t.Error("0 is refused")
	}
}

func TestWholeOfAndWholeInt(t *testing.T) {
	for _, n := range append(edgeNumbers(), -5, 5, -100, 100) {
		a := impl.WholeOf(n)
		checkWhole(t, "WholeOf", a, true, big.NewInt(int64(n)))
		got, ok := impl.WholeInt(a)
		if n == math.MinInt {
			if got != 0 || ok {
				t.Error("WholeInt of the least int:", got, ok)
			}
		} else if got != n || !ok {
			t.Errorf("WholeInt(WholeOf(%d)) = %d, %v", n, got, ok)
		}
	}
}

func TestWholeOfNamedNumbers(t *testing.T) {
	cases := []struct {
		n    int
		want impl.Whole
	}{
		{0, impl.Whole{}}, {1, impl.Whole{Mag: []int{1}}}, {-1, impl.Whole{Neg: true, Mag: []int{1}}},
		{-base, impl.Whole{Neg: true, Mag: []int{0, 1}}},
		{math.MaxInt, impl.Whole{Mag: []int{base - 1, base - 1, 32767}}},
		{math.MinInt + 1, impl.Whole{Neg: true, Mag: []int{base - 1, base - 1, 32767}}},
		{math.MinInt, impl.Whole{Neg: true, Mag: []int{0, 0, 32768}}},
	}
	for _, c := range cases {
		if got := impl.WholeOf(c.n); !sameWhole(got, c.want) {
			t.Errorf("WholeOf(%d) = %v", c.n, got)
		}
	}
}

func TestWholeIntRefuses(t *testing.T) {
	beyond := []impl.Whole{wholeOf(near(63, 0)), wholeOf(new(big.Int).Neg(near(63, 0))), wholeOf(near(63, 1)), wholeOf(near(64, 0)), wholeOf(near(64, 1)), wholeOf(new(big.Int).Neg(near(72, 5)))}
	for _, a := range append(badWholes(), beyond...) {
		if got, ok := impl.WholeInt(a); got != 0 || ok {
			t.Errorf("WholeInt(%v) = %d, %v, want 0 and false", shortened(a), got, ok)
		}
	}
}

func TestWholeOrderSumsAndProducts(t *testing.T) {
	for _, a := range goodWholes() {
		for _, b := range goodWholes() {
			x, y := bigOfWhole(a), bigOfWhole(b)
			if got := impl.WholeCmp(a, b); got != x.Cmp(y) {
				t.Fatalf("WholeCmp(%v, %v) = %d", a, b, got)
			}
			sum, ok := impl.WholeAdd(a, b)
			checkWhole(t, "WholeAdd", sum, ok, new(big.Int).Add(x, y))
			difference, ok := impl.WholeSub(a, b)
			checkWhole(t, "WholeSub", difference, ok, new(big.Int).Sub(x, y))
			product, ok := impl.WholeMul(a, b)
			checkWhole(t, "WholeMul", product, ok, new(big.Int).Mul(x, y))
		}
	}
}

func TestWholeOfSmallNumbers(t *testing.T) {
	for a := -20; a <= 20; a++ {
		for b := -20; b <= 20; b++ {
			x, y := impl.WholeOf(a), impl.WholeOf(b)
			sum, ok := impl.WholeAdd(x, y)
			checkWhole(t, "WholeAdd", sum, ok, big.NewInt(int64(a+b)))
			difference, ok := impl.WholeSub(x, y)
			checkWhole(t, "WholeSub", difference, ok, big.NewInt(int64(a-b)))
			product, ok := impl.WholeMul(x, y)
			checkWhole(t, "WholeMul", product, ok, big.NewInt(int64(a*b)))
			if got := impl.WholeCmp(x, y); got != big.NewInt(int64(a)).Cmp(big.NewInt(int64(b))) {
				t.Errorf("WholeCmp(%d, %d) = %d", a, b, got)
			}
		}
	}
}

// A number and its negative are 0 together, and that 0 has no sign.
func TestWholeNegTakesAway(t *testing.T) {
	for _, a := range goodWholes() {
		negative := impl.WholeNeg(a)
		checkWhole(t, "WholeNeg", negative, true, new(big.Int).Neg(bigOfWhole(a)))
		if !sameWhole(impl.WholeNeg(negative), a) {
			t.Errorf("WholeNeg twice of %v", a)
		}
		sum, ok := impl.WholeAdd(a, negative)
		checkWhole(t, "a number and its negative", sum, ok, new(big.Int))
		difference, ok := impl.WholeSub(a, a)
		checkWhole(t, "a number less itself", difference, ok, new(big.Int))
	}
	for _, a := range badWholes() {
		if got := impl.WholeNeg(a); got.Neg || len(got.Mag) != 0 {
			t.Errorf("WholeNeg(%v) = %v", shortened(a), got)
		}
	}
}

func TestWholeMostLimbs(t *testing.T) {
	full := near(mostBits, -1)
	one := big.NewInt(1)
	negative := func(n *big.Int) *big.Int { return new(big.Int).Neg(n) }
	cases := []struct {
		name string
		do   func(impl.Whole, impl.Whole) (impl.Whole, bool)
		a, b *big.Int
		want *big.Int
	}{
		{"full and 0", impl.WholeAdd, full, new(big.Int), full},
		{"full and 1", impl.WholeAdd, full, one, near(mostBits, 0)},
		{"full and -1", impl.WholeAdd, full, negative(one), near(mostBits, -2)},
		{"-full and -1", impl.WholeAdd, negative(full), negative(one), negative(near(mostBits, 0))},
		{"-full and 1", impl.WholeAdd, negative(full), one, negative(near(mostBits, -2))},
		{"-full less 1", impl.WholeSub, negative(full), one, negative(near(mostBits, 0))},
		{"-full less -full", impl.WholeSub, negative(full), negative(full), new(big.Int)},
		{"full less -full", impl.WholeSub, full, negative(full), near(mostBits+1, -2)},
		{"0 less full", impl.WholeSub, new(big.Int), full, negative(full)},
		{"full times -1", impl.WholeMul, full, negative(one), negative(full)},
		{"full times -2", impl.WholeMul, full, big.NewInt(-2), negative(near(mostBits+1, -2))},
		{"-full times 0", impl.WholeMul, negative(full), new(big.Int), new(big.Int)},
		{"2^575 times -2^576", impl.WholeMul, near(575, 0), negative(near(576, 0)), negative(near(1151, 0))},
		{"2^576 times -2^576", impl.WholeMul, near(576, 0), negative(near(576, 0)), negative(near(1152, 0))},
	}
	for _, c := range cases {
		got, ok := c.do(wholeOf(c.a), wholeOf(c.b))
		checkWhole(t, c.name, got, ok, c.want)
	}
}

func TestWholeShiftIsTheFloor(t *testing.T) {
	for _, a := range goodWholes() {
		for k := -1152; k <= 1152; k++ {
			want := bigOfWhole(a)
			if k < 0 {
				want.Rsh(want, uint(-k))
			} else {
				want.Lsh(want, uint(k))
			}
			got, ok := impl.WholeShift(a, k)
			checkWhole(t, "WholeShift", got, ok, want)
		}
	}
}

func TestWholeShiftEdges(t *testing.T) {
	cases := []struct {
		n, k int
		want string
	}{
		{0, -1152, "0"}, {0, -1, "0"}, {0, 0, "0"}, {0, 1152, "0"},
		{5, 0, "5"}, {-5, 0, "-5"}, {-5, 3, "-40"},
		{4, -2, "1"}, {-4, -2, "-1"}, {5, -2, "1"}, {-5, -2, "-2"}, {7, -2, "1"}, {-7, -2, "-2"}, {8, -2, "2"}, {-8, -2, "-2"},
		{1, -1, "0"}, {-1, -1, "-1"}, {1, -1152, "0"}, {-1, -1152, "-1"},
		{-base, -24, "-1"}, {-base - 1, -24, "-2"}, {-base + 1, -24, "-1"},
	}
	for _, c := range cases {
		got, ok := impl.WholeShift(impl.WholeOf(c.n), c.k)
		if !ok || impl.WholeText(got) != c.want {
			t.Errorf("WholeShift(%d, %d) = %v, %v, want %s", c.n, c.k, got, ok, c.want)
		}
	}
	full := wholeOf(new(big.Int).Neg(near(mostBits, -1)))
	got, ok := impl.WholeShift(full, -1152)
	checkWhole(t, "the least one down by 1152", got, ok, big.NewInt(-1))
	got, ok = impl.WholeShift(full, -1)
	checkWhole(t, "the least one down by 1", got, ok, new(big.Int).Neg(near(mostBits-1, 0)))
	got, ok = impl.WholeShift(full, 1)
	refusedWhole(t, "the least one up by 1", got, ok)
	got, ok = impl.WholeShift(impl.WholeOf(-1), 1151)
	checkWhole(t, "-1 up by 1151", got, ok, new(big.Int).Neg(near(1151, 0)))
	got, ok = impl.WholeShift(impl.WholeOf(-1), 1152)
	refusedWhole(t, "-1 up by 1152", got, ok)
	for _, a := range goodWholes() {
		for _, k := range []int{-1153, 1153, math.MinInt, math.MinInt + 1, math.MaxInt} {
			got, ok := impl.WholeShift(a, k)
			refusedWhole(t, "WholeShift of another k", got, ok)
		}
	}
}

func TestWholeTextOfEach(t *testing.T) {
	for _, a := range goodWholes() {
		if got := impl.WholeText(a); got != bigOfWhole(a).String() {
			t.Errorf("WholeText(%v) = %q", a, got)
		}
	}
	for _, a := range badWholes() {
		if got := impl.WholeText(a); got != "" {
			t.Errorf("WholeText(%v) = %q", shortened(a), got)
		}
	}
}

func TestWholeRefusesInEitherPlace(t *testing.T) {
	others := append(badWholes(), goodWholes()[:40]...)
	for _, a := range badWholes() {
		for _, b := range others {
			if impl.WholeCmp(a, b) != -2 || impl.WholeCmp(b, a) != -2 {
				t.Fatalf("WholeCmp takes %v", shortened(a))
			}
			for _, do := range []func(impl.Whole, impl.Whole) (impl.Whole, bool){impl.WholeAdd, impl.WholeSub, impl.WholeMul} {
				got, ok := do(a, b)
				refusedWhole(t, "what is no number in the first place", got, ok)
				got, ok = do(b, a)
				refusedWhole(t, "what is no number in the second place", got, ok)
			}
		}
		for _, k := range []int{-1152, -1, 0, 1, 1152, 1153} {
			got, ok := impl.WholeShift(a, k)
			refusedWhole(t, "WholeShift of what is no number", got, ok)
		}
	}
}

// Promise 29: every function answers at any arguments, and writes into none.

func TestWholeWritesIntoNothingAndSharesNothing(t *testing.T) {
	defer mustNotPanic(t)
	wholes := append(goodWholes(), badWholes()...)
	for _, a := range wholes {
		x, first := layWhole(a)
		impl.WholeOk(x)
		impl.WholeInt(x)
		impl.WholeText(x)
		checkApart(t, "WholeOk, WholeInt or WholeText", []laid{first})
		checkApart(t, "WholeNeg", []laid{first}, impl.WholeNeg(x).Mag)
		for _, k := range []int{math.MinInt, -1153, -1152, -24, -1, 0, 1, 24, 1152, 1153, math.MaxInt} {
			got, _ := impl.WholeShift(x, k)
			checkApart(t, "WholeShift", []laid{first}, got.Mag)
		}
	}
	for _, a := range wholes {
		x, first := layWhole(shortened(a))
		for _, b := range wholes {
			y, second := layWhole(shortened(b))
			args := []laid{first, second}
			impl.WholeCmp(x, y)
			checkApart(t, "WholeCmp", args)
			sum, _ := impl.WholeAdd(x, y)
			checkApart(t, "WholeAdd", args, sum.Mag)
			difference, _ := impl.WholeSub(x, y)
			checkApart(t, "WholeSub", args, difference.Mag)
			product, _ := impl.WholeMul(x, y)
			checkApart(t, "WholeMul", args, product.Mag)
		}
		sum, _ := impl.WholeAdd(x, x)
		difference, _ := impl.WholeSub(x, x)
		checkApart(t, "one number twice", []laid{first}, sum.Mag, difference.Mag)
	}
}

func TestWholeKeepsNothing(t *testing.T) {
	a := impl.WholeOf(300)
	a.Mag[0] = 7
	if again := impl.WholeOf(300); !sameWhole(again, impl.Whole{Mag: []int{300}}) {
		t.Error("WholeOf hands out what it keeps:", again)
	}
}
