package tests

import (
	"math"
	"math/big"
	"slices"
	"strings"
	"testing"

	"loop.example/g00481/impl"
)

// Promise 20: each function has one name; what is exact is in the domain.

var funNames = []string{"mul", "div", "sqrt", "hypot", "exp", "log", "sin", "cos", "tan", "atan", "atan2", "sinh", "cosh", "tanh", "atanh"}

var noFuns = []int{math.MinInt, math.MinInt + 1, -15, -2, -1, 15, 16, 1 << 32, 1<<32 + 4, math.MaxInt - 1, math.MaxInt}

// What a by 2^f is, times n: whole or not.
func partsOf(a int, f int, n int64) (*big.Int, bool) {
	x := fraction(new(big.Int).Mul(bigInt(a), big.NewInt(n)), near(f, 0))
	return x.Num(), x.IsInt()
}

func inDomain(fn int, turns bool, f int, a int, b int) bool {
	if fn < 0 || fn >= 15 || f < 0 || f > 60 || a < -mostArg || a > mostArg || b < -mostArg || b > mostArg {
		return false
	}
	switch funNames[fn] {
	case "div":
		return b != 0
	case "sqrt":
		return a >= 0
	case "log":
		return a > 0
	case "atan2":
		return a != 0 || b != 0
	case "atanh":
		return new(big.Int).Abs(bigInt(a)).Cmp(near(f, 0)) < 0
	case "tan":
		quarters, whole := partsOf(a, f, 4)
		return !turns || !whole || quarters.Bit(0) == 0
	}
	return true
}

// The document's list, one line behind the other.
func exactValue(fn int, turns bool, f int, a int, b int) (int, int, bool) {
	if !inDomain(fn, turns, f, a, b) {
		return 0, 0, false
	}
	name := funNames[fn]
	switch {
	case slices.Contains([]string{"exp", "cos", "cosh"}, name) && a == 0:
		return 1, 0, true
	case slices.Contains([]string{"sin", "tan", "atan", "sinh", "tanh", "atanh"}, name) && a == 0:
		return 0, 0, true
	case name == "log" && bigInt(a).Cmp(near(f, 0)) == 0:
		return 0, 0, true
	case name == "atan2" && a == 0 && b > 0:
		return 0, 0, true
	case !turns:
		return 0, 0, false
	}
	return exactTurn(name, f, a, b)
}

func exactTurn(name string, f int, a int, b int) (int, int, bool) {
	modulo := func(n *big.Int, by int64) int { return int(new(big.Int).Mod(n, big.NewInt(by)).Int64()) }
	quarters, whole := partsOf(a, f, 4)
	eighths, fine := partsOf(a, f, 8)
	switch {
	case name == "sin" && whole:
		return []int{0, 1, 0, -1}[modulo(quarters, 4)], 0, true
	case name == "cos" && whole:
		return []int{1, 0, -1, 0}[modulo(quarters, 4)], 0, true
	case name == "tan" && fine:
		return []int{0, 1, 9, -1, 0, 1, 9, -1}[modulo(eighths, 8)], 0, true
	case name == "atan" && bigInt(a).CmpAbs(near(f, 0)) == 0:
		return bigInt(a).Sign(), 3, true
	case name == "atan2" && (a == 0 || b == 0 || a == b || a == -b):
		side := [3][3]int{{-3, -2, -1}, {4, 0, 0}, {3, 2, 1}}
		return side[1+bigInt(a).Sign()][1+bigInt(b).Sign()], 3, true
	}
	return 0, 0, false
}

func checkFun(t *testing.T, fn int, turns bool, f int, a int, b int) {
	t.Helper()
	in := impl.InDomain(fn, turns, f, a, b)
	if in != inDomain(fn, turns, f, a, b) {
		t.Fatalf("InDomain(%d, %v, %d, %d, %d) is %v", fn, turns, f, a, b, in)
	}
	n, shift, ok := impl.Exact(fn, turns, f, a, b)
	number, by, fine := exactValue(fn, turns, f, a, b)
	if n != number || shift != by || ok != fine {
		t.Fatalf("Exact(%d, %v, %d, %d, %d) = %d, %d, %v, want %d, %d, %v", fn, turns, f, a, b, n, shift, ok, number, by, fine)
	}
	if ok && !in {
		t.Fatalf("Exact(%d, %v, %d, %d, %d) is not in the domain", fn, turns, f, a, b)
	}
}

func checkAllFuns(t *testing.T, f int, a int, b int) {
	t.Helper()
	for fn := range 15 {
		checkFun(t, fn, false, f, a, b)
		checkFun(t, fn, true, f, a, b)
	}
}

func TestFunctionsAreNumberedAndNamed(t *testing.T) {
	numbers := []int{impl.FuMul, impl.FuDiv, impl.FuSqrt, impl.FuHypot, impl.FuExp, impl.FuLog, impl.FuSin, impl.FuCos, impl.FuTan, impl.FuAtan, impl.FuAtan2, impl.FuSinh, impl.FuCosh, impl.FuTanh, impl.FuAtanh}
	if impl.Funs != 15 || len(numbers) != 15 {
		t.Error("Funs", impl.Funs)
	}
	for i, fn := range numbers {
		if fn != i || impl.FunText(fn) != funNames[i] || impl.FunOf(funNames[i]) != i {
			t.Errorf("the %dth function is %d, %q, %d", i, fn, impl.FunText(fn), impl.FunOf(funNames[i]))
		}
	}
	for _, fn := range noFuns {
		if got := impl.FunText(fn); got != "" {
			t.Errorf("FunText(%d) = %q", fn, got)
		}
	}
}

func TestTextsThatAreNoName(t *testing.T) {
	texts := []string{"", " ", "?", "-", "0", "4", "sine", "cosine", "atan3", "atan1", "atan02", "tan2", "ln", "pow", "sqr", "sqrtt", "mu", "m", "fun", "\x00", "\xff", "é", "sin\n", "sin\x00", "\x00sin", "sin cos", "sin,cos", "mul div", strings.Repeat("sin", 50000)}
	for _, name := range funNames {
		texts = append(texts, " "+name, name+" ", name+" 2", strings.ToUpper(name), strings.ToUpper(name[:1])+name[1:], name[:len(name)-1]+strings.ToUpper(name[len(name)-1:])+"h", name+"x", "a"+name+"h", name+name, name+"\t")
	}
	for _, s := range texts {
		if slices.Contains(funNames, s) {
			continue
		}
		if got := impl.FunOf(s); got != -1 {
			t.Errorf("FunOf(%q) = %d", s[:min(len(s), 40)], got)
		}
	}
	// All texts of one byte or two.
	for i := range 256 {
		for j := range 256 {
			if got := impl.FunOf(string([]byte{byte(i), byte(j)})); got != -1 {
				t.Fatal(i, j, got)
			}
		}
		if impl.FunOf(string([]byte{byte(i)})) != -1 {
			t.Fatal(i)
		}
	}
}

func TestTakesOneOrTwo(t *testing.T) {
	want := []int{2, 2, 1, 2, 1, 1, 1, 1, 1, 1, 2, 1, 1, 1, 1}
	for fn, n := range want {
		if got := impl.Takes(fn); got != n {
			t.Errorf("%s takes %d, want %d", funNames[fn], got, n)
		}
	}
	for _, fn := range noFuns {
		if got := impl.Takes(fn); got != 0 {
			t.Errorf("Takes(%d) = %d", fn, got)
		}
	}
}

func TestInDomainNamedOnes(t *testing.T) {
	const far = mostArg
	cases := []struct {
		fn    int
		turns bool
		f     int
		a, b  int
		want  bool
	}{
		{impl.FuDiv, false, 4, 1, 0, false}, {impl.FuDiv, false, 4, 0, 0, false}, {impl.FuDiv, false, 4, 0, 1, true}, {impl.FuDiv, false, 4, 1, -1, true}, {impl.FuMul, false, 4, 0, 0, true}, {impl.FuHypot, false, 4, 0, 0, true},
		{impl.FuSqrt, false, 4, 0, 0, true}, {impl.FuSqrt, false, 4, -1, 0, false}, {impl.FuSqrt, false, 60, far, 0, true}, {impl.FuSqrt, false, 60, -far, 0, false},
		{impl.FuLog, false, 4, 0, 0, false}, {impl.FuLog, false, 4, 1, 0, true}, {impl.FuLog, false, 4, -1, 0, false}, {impl.FuLog, false, 0, far, 0, true},
		{impl.FuAtan2, false, 4, 0, 0, false}, {impl.FuAtan2, true, 4, 0, 0, false}, {impl.FuAtan2, false, 4, 0, -1, true}, {impl.FuAtan2, false, 4, 1, 0, true},
		{impl.FuAtanh, false, 4, 16, 0, false}, {impl.FuAtanh, false, 4, -16, 0, false}, {impl.FuAtanh, false, 4, 15, 0, true}, {impl.FuAtanh, false, 4, -15, 0, true}, {impl.FuAtanh, false, 0, 0, 0, true}, {impl.FuAtanh, false, 0, 1, 0, false}, {impl.FuAtanh, false, 0, -1, 0, false}, {impl.FuAtanh, false, 60, 1 << 60, 0, false}, {impl.FuAtanh, false, 60, 1<<60 - 1, 0, true}, {impl.FuAtanh, false, 60, 1 - 1<<60, 0, true}, {impl.FuAtanh, false, 60, -1 << 60, 0, false}, {impl.FuAtanh, false, 60, -far, 0, false},
		{impl.FuTan, true, 4, 4, 0, false}, {impl.FuTan, true, 4, 3, 0, true}, {impl.FuTan, true, 4, 5, 0, true}, {impl.FuTan, true, 4, 8, 0, true}, {impl.FuTan, true, 4, -4, 0, false}, {impl.FuTan, true, 4, 12, 0, false}, {impl.FuTan, true, 4, -12, 0, false}, {impl.FuTan, true, 4, 20, 0, false}, {impl.FuTan, false, 4, 4, 0, true}, {impl.FuTan, true, 2, 1, 0, false}, {impl.FuTan, true, 2, 2, 0, true}, {impl.FuTan, true, 2, -1, 0, false}, {impl.FuTan, true, 1, 1, 0, true}, {impl.FuTan, true, 0, 1, 0, true}, {impl.FuTan, true, 0, far, 0, true}, {impl.FuTan, true, 2, far, 0, true}, {impl.FuTan, true, 2, far - 1, 0, false}, {impl.FuTan, true, 2, 1 - far, 0, false}, {impl.FuTan, true, 3, 2, 0, false}, {impl.FuTan, true, 3, 1, 0, true}, {impl.FuTan, true, 60, 1 << 58, 0, false}, {impl.FuTan, true, 60, 1<<58 + 1, 0, true}, {impl.FuTan, true, 60, 1<<58 - 1, 0, true}, {impl.FuTan, true, 60, 3 << 58, 0, false}, {impl.FuTan, true, 60, far, 0, true}, {impl.FuTan, true, 60, -(7 << 58), 0, false},
		{impl.FuExp, false, 0, far, far, true}, {impl.FuExp, false, 0, -far, -far, true}, {impl.FuExp, false, 0, far + 1, 0, false}, {impl.FuExp, false, 0, -far - 1, 0, false}, {impl.FuExp, false, 0, 0, far + 1, false}, {impl.FuExp, false, 0, 0, -far - 1, false}, {impl.FuExp, false, 60, 0, 0, true}, {impl.FuExp, false, 61, 0, 0, false}, {impl.FuExp, false, -1, 0, 0, false},
		{-1, false, 0, 1, 1, false}, {15, false, 0, 1, 1, false},
	}
	for _, c := range cases {
		if got := impl.InDomain(c.fn, c.turns, c.f, c.a, c.b); got != c.want {
			t.Errorf("InDomain(%d, %v, %d, %d, %d) is %v", c.fn, c.turns, c.f, c.a, c.b, got)
		}
		checkFun(t, c.fn, c.turns, c.f, c.a, c.b)
	}
}

func TestExactNamedOnes(t *testing.T) {
	const far = mostArg
	cases := []struct {
		fn       int
		turns    bool
		f, a, b  int
		n, shift int
		ok       bool
	}{
		{impl.FuExp, false, 4, 0, 0, 1, 0, true}, {impl.FuExp, true, 4, 0, 9, 1, 0, true}, {impl.FuExp, false, 4, 1, 0, 0, 0, false}, {impl.FuExp, false, 4, -1, 0, 0, 0, false}, {impl.FuExp, false, 61, 0, 0, 0, 0, false}, {impl.FuExp, false, 4, 0, far + 1, 0, 0, false},
		{impl.FuLog, false, 4, 16, 0, 0, 0, true}, {impl.FuLog, true, 60, 1 << 60, 0, 0, 0, true}, {impl.FuLog, false, 0, 1, 0, 0, 0, true}, {impl.FuLog, false, 4, 15, 0, 0, 0, false}, {impl.FuLog, false, 4, 17, 0, 0, 0, false}, {impl.FuLog, false, 4, 0, 0, 0, 0, false},
		{impl.FuSin, false, 4, 0, 0, 0, 0, true}, {impl.FuCos, false, 4, 0, 0, 1, 0, true}, {impl.FuTan, false, 4, 0, 0, 0, 0, true}, {impl.FuAtan, false, 4, 0, 0, 0, 0, true}, {impl.FuSinh, false, 4, 0, 0, 0, 0, true}, {impl.FuCosh, false, 4, 0, 0, 1, 0, true}, {impl.FuTanh, false, 4, 0, 0, 0, 0, true}, {impl.FuAtanh, false, 4, 0, 0, 0, 0, true},
		{impl.FuSin, false, 4, 4, 0, 0, 0, false}, {impl.FuCos, false, 4, 16, 0, 0, 0, false}, {impl.FuTan, false, 4, 2, 0, 0, 0, false}, {impl.FuAtan, false, 4, 16, 0, 0, 0, false}, {impl.FuSinh, true, 4, 4, 0, 0, 0, false}, {impl.FuCosh, true, 4, 8, 0, 0, 0, false}, {impl.FuTanh, true, 4, 4, 0, 0, 0, false}, {impl.FuAtanh, true, 4, 2, 0, 0, 0, false}, {impl.FuExp, true, 4, 16, 0, 0, 0, false}, {impl.FuLog, true, 4, 8, 0, 0, 0, false},
		{impl.FuMul, true, 4, 0, 0, 0, 0, false}, {impl.FuDiv, true, 4, 0, 1, 0, 0, false}, {impl.FuSqrt, true, 4, 0, 0, 0, 0, false}, {impl.FuHypot, true, 4, 0, 0, 0, 0, false},
		// Quarters of a turn, of either sign, and next to them.
		{impl.FuSin, true, 4, 4, 0, 1, 0, true}, {impl.FuSin, true, 4, 8, 0, 0, 0, true}, {impl.FuSin, true, 4, 12, 0, -1, 0, true}, {impl.FuSin, true, 4, 16, 0, 0, 0, true}, {impl.FuSin, true, 4, -4, 0, -1, 0, true}, {impl.FuSin, true, 4, -12, 0, 1, 0, true}, {impl.FuSin, true, 4, 2, 0, 0, 0, false}, {impl.FuSin, true, 4, 3, 0, 0, 0, false}, {impl.FuSin, true, 4, 5, 0, 0, 0, false}, {impl.FuSin, true, 0, 7, 0, 0, 0, true}, {impl.FuSin, true, 1, 1, 0, 0, 0, true}, {impl.FuSin, true, 2, 1, 0, 1, 0, true}, {impl.FuSin, true, 60, 1 << 58, 0, 1, 0, true}, {impl.FuSin, true, 60, 1<<58 + 1, 0, 0, 0, false}, {impl.FuSin, true, 60, 1<<58 - 1, 0, 0, 0, false}, {impl.FuSin, true, 60, 1 << 57, 0, 0, 0, false}, {impl.FuSin, true, 60, far, 0, 0, 0, true}, {impl.FuSin, true, 2, far - 1, 0, -1, 0, true}, {impl.FuSin, true, 2, 1 - far, 0, 1, 0, true},
		{impl.FuCos, true, 4, 4, 0, 0, 0, true}, {impl.FuCos, true, 4, 8, 0, -1, 0, true}, {impl.FuCos, true, 4, 12, 0, 0, 0, true}, {impl.FuCos, true, 4, 16, 0, 1, 0, true}, {impl.FuCos, true, 4, -8, 0, -1, 0, true}, {impl.FuCos, true, 4, -4, 0, 0, 0, true}, {impl.FuCos, true, 4, 6, 0, 0, 0, false}, {impl.FuCos, true, 0, -far, 0, 1, 0, true}, {impl.FuCos, true, 1, 1, 0, -1, 0, true}, {impl.FuCos, true, 1, far - 1, 0, -1, 0, true},
		// Eighths of the tangent; where twice is whole it is 0.
		{impl.FuTan, true, 4, 2, 0, 1, 0, true}, {impl.FuTan, true, 4, 6, 0, -1, 0, true}, {impl.FuTan, true, 4, 8, 0, 0, 0, true}, {impl.FuTan, true, 4, 10, 0, 1, 0, true}, {impl.FuTan, true, 4, 14, 0, -1, 0, true}, {impl.FuTan, true, 4, -2, 0, -1, 0, true}, {impl.FuTan, true, 4, -6, 0, 1, 0, true}, {impl.FuTan, true, 4, 4, 0, 0, 0, false}, {impl.FuTan, true, 4, 12, 0, 0, 0, false}, {impl.FuTan, true, 4, 1, 0, 0, 0, false}, {impl.FuTan, true, 4, 3, 0, 0, 0, false}, {impl.FuTan, true, 3, 1, 0, 1, 0, true}, {impl.FuTan, true, 3, -1, 0, -1, 0, true}, {impl.FuTan, true, 1, 1, 0, 0, 0, true}, {impl.FuTan, true, 60, 1 << 57, 0, 1, 0, true}, {impl.FuTan, true, 60, 1<<57 + 1, 0, 0, 0, false}, {impl.FuTan, true, 60, 3 << 57, 0, -1, 0, true}, {impl.FuTan, true, 3, far - 1, 0, -1, 0, true},
		// Angles that are eighths; that of 0 is named first, and has no shift.
		{impl.FuAtan, true, 4, 16, 0, 1, 3, true}, {impl.FuAtan, true, 4, -16, 0, -1, 3, true}, {impl.FuAtan, true, 4, 0, 0, 0, 0, true}, {impl.FuAtan, true, 4, 15, 0, 0, 0, false}, {impl.FuAtan, true, 4, -17, 0, 0, 0, false}, {impl.FuAtan, true, 60, 1 << 60, 0, 1, 3, true}, {impl.FuAtan, true, 0, -1, 0, -1, 3, true}, {impl.FuAtan, true, 4, 5, 5, 0, 0, false},
		{impl.FuAtan2, false, 4, 0, 5, 0, 0, true}, {impl.FuAtan2, true, 4, 0, 5, 0, 0, true}, {impl.FuAtan2, false, 4, 0, -5, 0, 0, false}, {impl.FuAtan2, false, 4, 5, 5, 0, 0, false}, {impl.FuAtan2, false, 4, 5, 0, 0, 0, false}, {impl.FuAtan2, true, 4, 0, 0, 0, 0, false},
		{impl.FuAtan2, true, 4, 5, 5, 1, 3, true}, {impl.FuAtan2, true, 4, 7, 0, 2, 3, true}, {impl.FuAtan2, true, 4, 5, -5, 3, 3, true}, {impl.FuAtan2, true, 4, 0, -1, 4, 3, true}, {impl.FuAtan2, true, 4, -5, -5, -3, 3, true}, {impl.FuAtan2, true, 4, -7, 0, -2, 3, true}, {impl.FuAtan2, true, 4, -5, 5, -1, 3, true}, {impl.FuAtan2, true, 4, 5, 6, 0, 0, false}, {impl.FuAtan2, true, 4, 5, -4, 0, 0, false},
		{impl.FuAtan2, true, 0, far, -far, 3, 3, true}, {impl.FuAtan2, true, 60, -far, -far, -3, 3, true}, {impl.FuAtan2, true, 60, far, far - 1, 0, 0, false}, {impl.FuAtan2, true, 60, 0, -far, 4, 3, true}, {impl.FuAtan2, true, 60, -far, 0, -2, 3, true}, {impl.FuAtan2, true, 60, far + 1, far + 1, 0, 0, false},
		{-1, true, 4, 0, 0, 0, 0, false}, {15, true, 4, 0, 0, 0, 0, false},
	}
	for _, c := range cases {
		n, shift, ok := impl.Exact(c.fn, c.turns, c.f, c.a, c.b)
		if n != c.n || shift != c.shift || ok != c.ok {
			t.Errorf("Exact(%d, %v, %d, %d, %d) = %d, %d, %v, want %d, %d, %v", c.fn, c.turns, c.f, c.a, c.b, n, shift, ok, c.n, c.shift, c.ok)
		}
		checkFun(t, c.fn, c.turns, c.f, c.a, c.b)
	}
}

func TestFunctionsOfSmallNumbers(t *testing.T) {
	t.Parallel()
	for f := 0; f <= 6; f++ {
		for a := -70; a <= 70; a++ {
			for _, b := range []int{-64, -3, -1, 0, 1, 2, 64, a, -a, a + 1} {
				checkAllFuns(t, f, a, b)
			}
		}
	}
}

func TestFunctionsOfAnyNumbers(t *testing.T) {
	t.Parallel()
	m := &mixer{state: 20202020}
	for f := 0; f <= 60; f++ {
		// Parts of a turn, and one beside each.
		for k := -17; k <= 17; k++ {
			for d := -1; d <= 1; d++ {
				part := new(big.Int).Rsh(new(big.Int).Mul(near(f, 0), bigInt(k)), 3)
				if a := int(part.Int64()) + d; part.IsInt64() && part.BitLen() < 61 {
					checkAllFuns(t, f, a, 0)
					checkAllFuns(t, f, a, a)
				}
			}
		}
		args := someArgs(m)
		for _, a := range args[:20] {
			checkAllFuns(t, f, a, args[m.below(len(args))])
		}
	}
}

// Whether so many 8ths of it are whole, as far as all its bits show.
func isEighths(a *big.Float) bool {
	up := scaled(a, 3)
	nearest, _ := sumOf(up, scaled(exactly(up.Sign()), -1)).Int(nil)
	off := lessOf(up, realOf(nearest))
	return off.Sign() == 0 || off.MantExp(nil) < -700
}

// What is told to be exact is so: held against the true values. No other value is whole eighths.
func TestExactIsTrue(t *testing.T) {
	t.Parallel()
	const f = 6
	for a := -72; a <= 72; a++ {
		for _, turns := range bothWays {
			for fn := impl.FuExp; fn < impl.Funs; fn++ {
				for _, b := range []int{-64, a, -a, 0, 7} {
					if !impl.InDomain(fn, turns, f, a, b) || fn != impl.FuAtan2 && b != 0 {
						continue
					}
					n, shift, ok := impl.Exact(fn, turns, f, a, b)
					value := trueValue(fn, turns, f, a, b)
					off := lessOf(value, scaled(exactly(n), -shift))
					if ok && off.Sign() != 0 && off.MantExp(nil) > -700 {
						t.Errorf("%s of %d and %d by 2^%d (%v) is not %d by 2^%d", funNames[fn], a, b, f, turns, n, shift)
					}
					if ok != isEighths(value) {
						t.Errorf("%s of %d and %d by 2^%d (%v) is exact: %v", funNames[fn], a, b, f, turns, ok)
					}
				}
			}
		}
	}
}

func TestFunctionsRefuse(t *testing.T) {
	good := []int{-mostArg, -1, 0, 1, mostArg}
	for _, fn := range slices.Concat(noFuns, []int{0, 1, 2, 3, 4, 5, 6, 7, 8, 9, 10, 11, 12, 13, 14}) {
		for _, f := range slices.Concat(noPoints, []int{0, 1, 60}) {
			for _, a := range slices.Concat(noArgs, good) {
				for _, b := range slices.Concat(noArgs, good) {
					checkFun(t, fn, false, f, a, b)
					checkFun(t, fn, true, f, a, b)
				}
			}
		}
	}
}

// Promise 29: every function answers at any arguments; what was answered once is answered again.

func TestFunctionsAnswerAtAnything(t *testing.T) {
	defer mustNotPanic(t)
	any := []int{math.MinInt, math.MinInt + 1, -mostArg - 1, -mostArg, -1, 0, 1, 2, 60, 61, 63, 64, mostArg, mostArg + 1, math.MaxInt - 1, math.MaxInt}
	type answer struct {
		in, ok   bool
		n, shift int
	}
	ask := func(fn int, f int, a int, b int) answer {
		n, shift, ok := impl.Exact(fn, true, f, a, b)
		return answer{impl.InDomain(fn, true, f, a, b), ok, n, shift}
	}
	for _, fn := range append(any, 4, 8, 9, 10) {
		for _, f := range any {
			for _, a := range any {
				for _, b := range any {
					if first := ask(fn, f, a, b); ask(fn, f, a, b) != first {
						t.Fatalf("%d, %d, %d, %d is another one the second time", fn, f, a, b)
					}
				}
			}
		}
	}
	// Names come out of a map in their own order, however often they are asked for.
	for i := range 600 {
		fn := i * 7 % 15
		if impl.FunText(fn) != funNames[fn] || impl.FunOf(funNames[fn]) != fn || impl.Takes(fn) < 1 {
			t.Fatalf("the %dth time: %q", i, impl.FunText(fn))
		}
	}
	for _, s := range edgeTexts() {
		if got := impl.FunOf(s); got != -1 {
			t.Errorf("FunOf(%q) = %d", s[:min(len(s), 40)], got)
		}
	}
}
