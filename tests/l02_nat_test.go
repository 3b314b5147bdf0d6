package tests

import (
	"math"
	"math/big"
	"slices"
	"testing"

	"loop.example/g00481/impl"
)

// Promise 2: of great numbers sums come apart again; what is shifted up and down is as it was.

func TestNatLimits(t *testing.T) {
	if impl.Base != base || impl.MaxLimbs != mostLimbs {
		t.Error(impl.Base, impl.MaxLimbs)
	}
}

func TestNatOkTellsGreatNumbers(t *testing.T) {
	for _, a := range goodLists() {
		if !impl.NatOk(a) {
			t.Errorf("NatOk(%v) is false", a)
		}
	}
	if !impl.NatOk([]int{}) || !impl.NatOk(slices.Repeat([]int{base - 1}, mostLimbs)) {
		t.Error("NatOk of an edge is false")
	}
	for _, a := range badLists() {
		if impl.NatOk(a) {
			t.Errorf("NatOk(%v) is true", a[:min(len(a), 50)])
		}
	}
}

func TestNatOfAndNatInt(t *testing.T) {
	for _, n := range edgeNumbers() {
		a, ok := impl.NatOf(n)
		checkNat(t, "NatOf", a, ok, big.NewInt(int64(n)))
		if n < 0 {
			continue
		}
		if got, ok := impl.NatInt(a); got != n || !ok {
			t.Errorf("NatInt(NatOf(%d)) = %d, %v", n, got, ok)
		}
	}
}

func TestNatOfNamedNumbers(t *testing.T) {
	cases := []struct {
		n    int
		want []int
	}{
		{0, nil}, {1, []int{1}}, {base - 1, []int{base - 1}}, {base, []int{0, 1}}, {base + 5, []int{5, 1}},
		{math.MaxInt, []int{base - 1, base - 1, 32767}},
	}
	for _, c := range cases {
		if got, ok := impl.NatOf(c.n); !ok || !slices.Equal(got, c.want) {
			t.Errorf("NatOf(%d) = %v, %v", c.n, got, ok)
		}
	}
	for _, n := range []int{-1, -base, math.MinInt} {
		if got, ok := impl.NatOf(n); ok || len(got) != 0 {
			t.Errorf("NatOf(%d) = %v, %v", n, got, ok)
		}
	}
}

func TestNatIntOfEachList(t *testing.T) {
	for _, a := range goodLists() {
		want, known := 0, bigOf(a).IsInt64()
		if known {
			want = int(bigOf(a).Int64())
		}
		if got, ok := impl.NatInt(a); got != want || ok != known {
			t.Errorf("NatInt(%v) = %d, %v, want %d, %v", a, got, ok, want, known)
		}
	}
	for _, a := range append(badLists(), []int{0, 0, 32768}, []int{1, 0, 32768}, []int{1, 0, 0, 1}) {
		if got, ok := impl.NatInt(a); got != 0 || ok {
			t.Errorf("NatInt(%v) = %d, %v, want 0 and false", a[:min(len(a), 50)], got, ok)
		}
	}
}

func TestNatOrderSumsAndProducts(t *testing.T) {
	for _, a := range goodLists() {
		for _, b := range goodLists() {
			x, y := bigOf(a), bigOf(b)
			if got := impl.NatCmp(a, b); got != x.Cmp(y) {
				t.Fatalf("NatCmp(%v, %v) = %d", a, b, got)
			}
			sum, ok := impl.NatAdd(a, b)
			checkNat(t, "NatAdd", sum, ok, new(big.Int).Add(x, y))
			difference, ok := impl.NatSub(a, b)
			checkNat(t, "NatSub", difference, ok, new(big.Int).Sub(x, y))
			product, ok := impl.NatMul(a, b)
			checkNat(t, "NatMul", product, ok, new(big.Int).Mul(x, y))
		}
	}
}

func TestNatSumsComeApart(t *testing.T) {
	for _, a := range goodLists() {
		for _, b := range goodLists() {
			sum, ok := impl.NatAdd(a, b)
			if !ok {
				continue
			}
			first, fine := impl.NatSub(sum, b)
			second, good := impl.NatSub(sum, a)
			if !fine || !good || !slices.Equal(first, a) || !slices.Equal(second, b) {
				t.Fatalf("%v and %v do not come apart: %v, %v", a, b, first, second)
			}
		}
	}
}

func TestNatMostLimbs(t *testing.T) {
	one := []int{1}
	full := slices.Repeat([]int{base - 1}, mostLimbs)
	cases := []struct {
		name string
		do   func([]int, []int) ([]int, bool)
		a, b []int
		want *big.Int
	}{
		{"full and 0", impl.NatAdd, full, nil, near(mostBits, -1)},
		{"full and 1", impl.NatAdd, full, one, near(mostBits, 0)},
		{"1 and full", impl.NatAdd, one, full, near(mostBits, 0)},
		{"full twice", impl.NatAdd, full, full, near(mostBits+1, -2)},
		{"halves, less 1", impl.NatAdd, listOf(near(mostBits-1, 0)), listOf(near(mostBits-1, -1)), near(mostBits, -1)},
		{"halves", impl.NatAdd, listOf(near(mostBits-1, 0)), listOf(near(mostBits-1, 0)), near(mostBits, 0)},
		{"full less full", impl.NatSub, full, full, new(big.Int)},
		{"0 less 1", impl.NatSub, nil, one, big.NewInt(-1)},
		{"0 less 0", impl.NatSub, nil, nil, new(big.Int)},
		{"full less 1, less full", impl.NatSub, listOf(near(mostBits, -2)), full, big.NewInt(-1)},
		{"full times 1", impl.NatMul, full, one, near(mostBits, -1)},
		{"full times 0", impl.NatMul, full, nil, new(big.Int)},
		{"0 times full", impl.NatMul, nil, full, new(big.Int)},
		{"full times 2", impl.NatMul, full, []int{2}, near(mostBits+1, -2)},
		{"2^575 times 2^576", impl.NatMul, listOf(near(575, 0)), listOf(near(576, 0)), near(1151, 0)},
		{"2^576 times 2^576", impl.NatMul, listOf(near(576, 0)), listOf(near(576, 0)), near(1152, 0)},
		{"full times full", impl.NatMul, full, full, new(big.Int).Mul(near(mostBits, -1), near(mostBits, -1))},
	}
	for _, c := range cases {
		got, ok := c.do(c.a, c.b)
		checkNat(t, c.name, got, ok, c.want)
	}
}

func TestNatBitsOfEachList(t *testing.T) {
	for _, a := range goodLists() {
		if got := impl.NatBits(a); got != bigOf(a).BitLen() {
			t.Errorf("NatBits(%v) = %d", a, got)
		}
	}
	for k := range mostBits {
		if got := impl.NatBits(listOf(near(k, 0))); got != k+1 {
			t.Errorf("NatBits of 2^%d = %d", k, got)
		}
	}
	for _, a := range badLists() {
		if got := impl.NatBits(a); got != -1 {
			t.Errorf("NatBits(%v) = %d, want -1", a[:min(len(a), 50)], got)
		}
	}
}

func TestNatShifts(t *testing.T) {
	for _, a := range goodLists() {
		for k := 0; k <= mostBits; k++ {
			x := bigOf(a)
			up, ok := impl.NatShl(a, k)
			checkNat(t, "NatShl", up, ok, new(big.Int).Lsh(x, uint(k)))
			if ok {
				back, fine := impl.NatShr(up, k)
				if !fine || !slices.Equal(back, a) {
					t.Fatalf("%v up and down by %d is %v", a, k, back)
				}
			}
			down, ok := impl.NatShr(a, k)
			checkNat(t, "NatShr", down, ok, new(big.Int).Rsh(x, uint(k)))
		}
	}
}

func TestNatShiftEdges(t *testing.T) {
	if got, ok := impl.NatShl(nil, 1152); !ok || len(got) != 0 {
		t.Error("0 up by 1152:", got, ok)
	}
	if got, ok := impl.NatShl([]int{1}, 1151); !ok || len(got) != mostLimbs {
		t.Error("1 up by 1151:", got, ok)
	}
	if got, ok := impl.NatShl([]int{1}, 1152); ok || len(got) != 0 {
		t.Error("1 up by 1152:", got, ok)
	}
	for _, a := range goodLists() {
		for _, k := range []int{-1, -24, 1153, 1 << 20, math.MinInt, math.MaxInt} {
			if up, ok := impl.NatShl(a, k); ok || len(up) != 0 {
				t.Errorf("NatShl(%v, %d) = %v, %v", a, k, up, ok)
			}
			if down, ok := impl.NatShr(a, k); ok || len(down) != 0 {
				t.Errorf("NatShr(%v, %d) = %v, %v", a, k, down, ok)
			}
		}
	}
}

func TestNatRefusesWhatIsNoGreatNumber(t *testing.T) {
	refused := func(name string, a []int, got []int, ok bool) {
		if ok || len(got) != 0 {
			t.Errorf("%s of %v = %v, %v, want nothing and false", name, a[:min(len(a), 50)], got, ok)
		}
	}
	for _, a := range badLists() {
		for _, b := range append(goodLists(), badLists()...) {
			if impl.NatCmp(a, b) != -2 || impl.NatCmp(b, a) != -2 {
				t.Error("NatCmp takes", a[:min(len(a), 50)])
			}
			for i, do := range []func([]int, []int) ([]int, bool){impl.NatAdd, impl.NatSub, impl.NatMul} {
				name := []string{"NatAdd", "NatSub", "NatMul"}[i]
				got, ok := do(a, b)
				refused(name, a, got, ok)
				got, ok = do(b, a)
				refused(name, a, got, ok)
			}
		}
		for _, k := range []int{-1, 0, 1, 24, 1152, 1153} {
			got, ok := impl.NatShl(a, k)
			refused("NatShl", a, got, ok)
			got, ok = impl.NatShr(a, k)
			refused("NatShr", a, got, ok)
		}
	}
}

// Promise 29: every function answers at any arguments, and writes into none.

func TestNatWritesIntoNothingAndSharesNothing(t *testing.T) {
	defer mustNotPanic(t)
	lists := append(goodLists(), badLists()...)
	for _, a := range lists {
		x := lay(a)
		impl.NatOk(x.list)
		impl.NatInt(x.list)
		impl.NatBits(x.list)
		checkApart(t, "NatOk, NatInt or NatBits", []laid{x})
		for _, k := range []int{math.MinInt, -1, 0, 1, 23, 24, 25, 48, 1151, 1152, 1153, math.MaxInt} {
			up, _ := impl.NatShl(x.list, k)
			checkApart(t, "NatShl", []laid{x}, up)
			down, _ := impl.NatShr(x.list, k)
			checkApart(t, "NatShr", []laid{x}, down)
		}
		for _, b := range lists {
			y := lay(b)
			args := []laid{x, y}
			impl.NatCmp(x.list, y.list)
			checkApart(t, "NatCmp", args)
			sum, _ := impl.NatAdd(x.list, y.list)
			checkApart(t, "NatAdd", args, sum)
			difference, _ := impl.NatSub(x.list, y.list)
			checkApart(t, "NatSub", args, difference)
			product, _ := impl.NatMul(x.list, y.list)
			checkApart(t, "NatMul", args, product)
		}
	}
}

func TestNatOfOneListTwice(t *testing.T) {
	for _, a := range goodLists() {
		x := lay(a)
		n := bigOf(a)
		sum, ok := impl.NatAdd(x.list, x.list)
		checkNat(t, "NatAdd", sum, ok, new(big.Int).Add(n, n))
		difference, ok := impl.NatSub(x.list, x.list)
		checkNat(t, "NatSub", difference, ok, new(big.Int))
		product, ok := impl.NatMul(x.list, x.list)
		checkNat(t, "NatMul", product, ok, new(big.Int).Mul(n, n))
		checkApart(t, "one list twice", []laid{x}, sum, difference, product)
	}
}

func TestNatKeepsNothing(t *testing.T) {
	a, _ := impl.NatOf(300)
	a[0] = 7
	if again, ok := impl.NatOf(300); !ok || !slices.Equal(again, []int{300}) {
		t.Error("NatOf hands out what it keeps:", again)
	}
}
