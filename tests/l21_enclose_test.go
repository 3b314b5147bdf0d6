package tests

import (
	"math"
	"math/big"
	"slices"
	"sync"
	"testing"

	"loop.example/g00481/impl"
)

// Promise 21: what is exact lies within what is reckoned; what is reckoned to more bits meets what is reckoned to less.

// Just below and above a quarter of a turn, as an angle with 60 bits behind the point.
func quarterAngles() (int, int) {
	n, _ := scaled(truePi(), 59).Int64()
	return int(n), int(n) + 1
}

// The function that the document names for each.
func enclosed(fn int, turns bool, f int, a int, b int, p int) (impl.Iv, int) {
	if fn < 4 || fn > 14 || !inDomain(fn, turns, f, a, b) || p < 1 || p > 300 {
		return impl.Iv{}, impl.EnBad
	}
	switch funNames[fn] {
	case "exp":
		return impl.ExpIv(a, f, p)
	case "log":
		return impl.LogIv(a, f, p)
	case "sin":
		sine, _, code := impl.SinCosIv(a, f, turns, p)
		return sine, code
	case "cos":
		_, cosine, code := impl.SinCosIv(a, f, turns, p)
		return cosine, code
	case "tan":
		return impl.TanIv(a, f, turns, p)
	case "atan":
		return impl.AtanIv(a, f, turns, p)
	case "atan2":
		return impl.AngleIv(a, b, turns, p)
	case "sinh":
		return impl.SinhIv(a, f, p)
	case "cosh":
		return impl.CoshIv(a, f, p)
	case "tanh":
		return impl.TanhIv(a, f, p)
	}
	return impl.AtanhIv(a, f, p)
}

// The code that is told of what is in the domain; EnWide hangs on how near the quarter of a turn is.
func enclosedCode(fn int, f int, a int) int {
	x := fraction(bigInt(a), near(f, 0))
	great, less := x.Cmp(big.NewRat(64, 1)) > 0, x.Cmp(big.NewRat(-64, 1)) < 0
	switch {
	case great && (fn == impl.FuExp || fn == impl.FuSinh || fn == impl.FuCosh), less && fn == impl.FuCosh:
		return impl.EnGreat
	case less && fn == impl.FuSinh:
		return impl.EnLess
	}
	return impl.EnOk
}

func checkEnclose(t *testing.T, fn int, turns bool, f int, a int, b int, p int) {
	t.Helper()
	want, code := enclosed(fn, turns, f, a, b, p)
	got, how := impl.Enclose(fn, turns, f, a, b, p)
	if how != code || !sameIv(got, want) {
		t.Fatalf("Enclose(%d, %v, %d, %d, %d, %d) = %v, %d, want %v, %d", fn, turns, f, a, b, p, got, how, want, code)
	}
	if how != impl.EnBad && how != impl.EnWide && how != enclosedCode(fn, f, a) {
		t.Fatalf("Enclose(%d, %v, %d, %d, %d, %d) tells %d", fn, turns, f, a, b, p, how)
	}
	if how != impl.EnOk {
		refusedIv(t, "Enclose", got, false)
		return
	}
	checkExactWithin(t, fn, turns, f, a, b, p, got)
}

func checkExactWithin(t *testing.T, fn int, turns bool, f int, a int, b int, p int, got impl.Iv) {
	t.Helper()
	if n, shift, ok := impl.Exact(fn, turns, f, a, b); ok {
		checkBetween(t, "what is exact", got, p, scaled(exactly(n), -shift))
	}
}

func TestEncloseIsTheFunctionThatIsNamed(t *testing.T) {
	t.Parallel()
	m := &mixer{state: 21212121}
	for fn := range 15 {
		for _, turns := range bothWays {
			for _, f := range somePoints {
				args := someArgs(m)
				for range 8 {
					a, b := args[m.below(len(args))], args[m.below(len(args))]
					checkEnclose(t, fn, turns, f, a, b, someEncs[m.below(len(someEncs))])
				}
				for a := -2; a <= 2; a++ {
					checkEnclose(t, fn, turns, f, a, 1, someEncs[m.below(len(someEncs))])
				}
			}
		}
	}
}

// The true value is held, and by ends that are not far from each other.
func TestEncloseHoldsTheTrueValue(t *testing.T) {
	t.Parallel()
	m := &mixer{state: 2718281}
	for fn := impl.FuExp; fn < impl.Funs; fn++ {
		for _, turns := range bothWays {
			for range 60 {
				f := m.below(50)
				a, b := m.below(50<<f)-m.below(50<<f), m.below(1<<40)-1<<39
				if fn == impl.FuAtanh {
					a = m.below(1<<f) - m.below(1<<f)
				}
				p := 1 + m.below(300)
				got, how := impl.Enclose(fn, turns, f, a, b, p)
				if !impl.InDomain(fn, turns, f, a, b) {
					refusedCode(t, "Enclose out of the domain", got, how, impl.EnBad)
					continue
				}
				if how == impl.EnWide {
					continue
				}
				checkBetween(t, funNames[fn], got, p, trueValue(fn, turns, f, a, b))
				if fn != impl.FuTan && !impl.Tight(got, 2) {
					t.Fatalf("%s of %d by 2^%d at %d is wide: %v", funNames[fn], a, f, p, got)
				}
			}
		}
	}
}

// Parts of a turn, and the words beside each: what is exact of them is held.
func TestExactLiesWithinWhatIsReckoned(t *testing.T) {
	t.Parallel()
	found := 0
	for _, f := range []int{0, 3, 30, 60} {
		for k := -9; k <= 9; k++ {
			part := new(big.Int).Rsh(new(big.Int).Mul(near(f, 0), bigInt(k)), 3)
			for d := -1; d <= 1; d++ {
				a := int(part.Int64()) + d
				for fn := impl.FuExp; fn < impl.Funs; fn++ {
					for _, turns := range bothWays {
						found += countExactWithin(t, fn, turns, f, a)
					}
				}
			}
		}
	}
	if found < 300 {
		t.Error("only", found, "were exact")
	}
}

func countExactWithin(t *testing.T, fn int, turns bool, f int, a int) int {
	t.Helper()
	others := []int{0}
	if fn == impl.FuAtan2 {
		others = []int{0, 1, a, -a}
	}
	found := 0
	for _, b := range others {
		if _, _, ok := impl.Exact(fn, turns, f, a, b); !ok {
			continue
		}
		found++
		for _, p := range []int{1, 60 + found} {
			checkEnclose(t, fn, turns, f, a, b, p)
		}
	}
	return found
}

func TestEncloseOfMoreBits(t *testing.T) {
	t.Parallel()
	for fn := impl.FuExp; fn < impl.Funs; fn++ {
		for _, turns := range bothWays {
			for _, a := range []int{0, 1, -3, 12345, 32767, -40000} {
				checkEachMeets(t, fn, turns, a)
			}
		}
	}
}

func checkEachMeets(t *testing.T, fn int, turns bool, a int) {
	t.Helper()
	var known []impl.Iv
	for i, q := range someEncs {
		more, how := impl.Enclose(fn, turns, 15, a, 7, q)
		if how != impl.EnOk {
			return
		}
		known = append(known, more)
		for j, p := range someEncs[:i] {
			down, ok := impl.IvMove(more, q, p)
			if !ok || !impl.IvMeet(down, known[j]) {
				t.Fatalf("%s of %d by 2^15 (%v): %v at %d does not meet %v at %d", funNames[fn], a, turns, more, q, known[j], p)
			}
		}
	}
}

// Every code that a function tells comes through.
func TestEncloseTellsEachCode(t *testing.T) {
	low, high := quarterAngles()
	cases := []struct {
		fn            int
		turns         bool
		f, a, b, p, c int
	}{
		{impl.FuExp, false, 0, 64, 0, 30, impl.EnOk}, {impl.FuExp, false, 0, 65, 0, 30, impl.EnGreat}, {impl.FuExp, false, 3, 513, 0, 30, impl.EnGreat}, {impl.FuExp, false, 0, -401, 0, 30, impl.EnOk}, {impl.FuExp, false, 0, mostArg, 0, 30, impl.EnGreat}, {impl.FuExp, false, 0, -mostArg, 0, 30, impl.EnOk},
		{impl.FuSinh, false, 0, 65, 0, 30, impl.EnGreat}, {impl.FuSinh, false, 0, -65, 0, 30, impl.EnLess}, {impl.FuSinh, false, 0, -64, 0, 30, impl.EnOk}, {impl.FuCosh, false, 0, 65, 0, 30, impl.EnGreat}, {impl.FuCosh, false, 0, -65, 0, 30, impl.EnGreat}, {impl.FuCosh, false, 0, -64, 0, 30, impl.EnOk}, {impl.FuTanh, false, 0, 65, 0, 30, impl.EnOk},
		{impl.FuTan, false, 60, low, 0, 30, impl.EnWide}, {impl.FuTan, false, 60, high, 0, 30, impl.EnWide}, {impl.FuTan, false, 60, low, 0, 60, impl.EnOk}, {impl.FuTan, false, 60, -high, 0, 60, impl.EnOk}, {impl.FuTan, true, 60, 1<<58 + 1, 0, 1, impl.EnWide}, {impl.FuTan, true, 60, 1<<58 + 1, 0, 60, impl.EnOk}, {impl.FuTan, true, 60, 1 << 58, 0, 60, impl.EnBad},
		{impl.FuLog, false, 0, 0, 0, 30, impl.EnBad}, {impl.FuLog, false, 0, -1, 0, 30, impl.EnBad}, {impl.FuLog, false, 0, 1, 0, 30, impl.EnOk}, {impl.FuAtan2, false, 0, 0, 0, 30, impl.EnBad}, {impl.FuAtan2, false, 0, 0, 1, 30, impl.EnOk},
		{impl.FuAtanh, false, 4, 16, 0, 30, impl.EnBad}, {impl.FuAtanh, false, 4, -16, 0, 30, impl.EnBad}, {impl.FuAtanh, false, 4, 15, 0, 30, impl.EnOk}, {impl.FuAtanh, false, 4, -15, 0, 30, impl.EnOk},
		{impl.FuMul, false, 4, 16, 16, 30, impl.EnBad}, {impl.FuDiv, false, 4, 16, 16, 30, impl.EnBad}, {impl.FuSqrt, false, 4, 16, 16, 30, impl.EnBad}, {impl.FuHypot, false, 4, 16, 16, 30, impl.EnBad}, {15, false, 4, 0, 0, 30, impl.EnBad}, {-1, false, 4, 0, 0, 30, impl.EnBad},
	}
	for _, c := range cases {
		got, how := impl.Enclose(c.fn, c.turns, c.f, c.a, c.b, c.p)
		if how != c.c {
			t.Errorf("Enclose(%d, %v, %d, %d, %d, %d) tells %d, want %d", c.fn, c.turns, c.f, c.a, c.b, c.p, how, c.c)
		}
		if how != impl.EnOk {
			refusedIv(t, "Enclose", got, false)
		}
		checkEnclose(t, c.fn, c.turns, c.f, c.a, c.b, c.p)
	}
	cosine, _ := impl.Enclose(impl.FuCos, true, 3, 1, 0, 30)
	angle, _ := impl.Enclose(impl.FuAtan2, true, 3, 1, -1, 10)
	if !sameIv(cosine, smallIv(759250124, 759250125)) || !sameIv(angle, smallIv(383, 385)) {
		t.Error("the cosine of an eighth, or three eighths of a turn:", cosine, angle)
	}
}

func TestEncloseRefuses(t *testing.T) {
	t.Parallel()
	good := []int{-mostArg, -1, 0, 1, mostArg}
	for _, fn := range slices.Concat(noFuns, []int{0, 3, 4, 5, 8, 10, 14}) {
		for _, f := range slices.Concat(noPoints, []int{0, 60}) {
			for _, a := range slices.Concat(noArgs, good) {
				for _, b := range slices.Concat(noArgs[:4], good) {
					for _, p := range []int{math.MinInt, -1, 0, 1, 300, 301, math.MaxInt} {
						// What is refused costs nothing; of the rest a part will do.
						if in := inDomain(fn, true, f, a, b); !in || p != 300 || b == 1 {
							checkEnclose(t, fn, true, f, a, b, p)
						}
					}
				}
			}
		}
	}
	for _, p := range noEncs {
		got, how := impl.Enclose(impl.FuSin, false, 4, 5, 0, p)
		refusedCode(t, "Enclose at no place", got, how, impl.EnBad)
	}
}

func TestRungsOfEachPoint(t *testing.T) {
	for f := 0; f <= 60; f++ {
		if got := impl.Rungs(f); !slices.Equal(got, []int{f + 32, f + 72, f + 132, f + 200}) {
			t.Errorf("Rungs(%d) = %v", f, got)
		}
	}
	for _, f := range noPoints {
		if got := impl.Rungs(f); len(got) != 0 {
			t.Errorf("Rungs(%d) = %v", f, got)
		}
	}
	first := impl.Rungs(7)
	clear(first)
	second := impl.Rungs(7)
	if !slices.Equal(second, []int{39, 79, 139, 207}) || shareMemory(first, second) {
		t.Error("Rungs the second time:", second)
	}
}

func TestTightIsAtMostSoWide(t *testing.T) {
	cases := []struct {
		lo, hi, n int
		want      bool
	}{
		{1, 9, 8, true}, {1, 9, 7, false}, {1, 9, 9, true}, {-4, 4, 8, true}, {-4, 4, 7, false}, {5, 5, 0, true}, {5, 5, -1, false}, {5, 6, 0, false}, {5, 6, 1, true}, {0, 0, 0, true}, {0, 0, -1, false}, {0, 0, math.MinInt, false}, {-9, -1, 8, true}, {-9, -1, 7, false}, {9, 1, 8, false}, {9, 1, math.MaxInt, false}, {-math.MaxInt, 0, math.MaxInt, true}, {-math.MaxInt, 1, math.MaxInt, false}, {0, math.MaxInt, math.MaxInt - 1, false},
	}
	for _, c := range cases {
		if got := impl.Tight(smallIv(c.lo, c.hi), c.n); got != c.want {
			t.Errorf("Tight of %d to %d and %d is %v", c.lo, c.hi, c.n, got)
		}
	}
	numbers := []int{math.MinInt, -1000000, -1, 0, 1, 2, 3, 8, 1000000, base, math.MaxInt - 1, math.MaxInt}
	for _, v := range goodIvs() {
		width := bigOfWhole(impl.IvWidth(v))
		for _, n := range numbers {
			if got := impl.Tight(v, n); got != (width.Cmp(bigInt(n)) <= 0) {
				t.Fatalf("Tight(%v, %d) is %v", v, n, got)
			}
		}
	}
	for _, v := range badIvs() {
		for _, n := range numbers {
			if impl.Tight(v, n) {
				t.Fatalf("Tight(%v, %d)", briefIv(v), n)
			}
		}
	}
}

// Promise 29: every function answers at any arguments, and writes into none; what was answered once is answered again.

func TestEncloseAnswersAtAnything(t *testing.T) {
	t.Parallel()
	defer mustNotPanic(t)
	for _, turns := range bothWays {
		for _, fn := range []int{math.MinInt, -1, 3, 4, 5, 6, 7, 8, 9, 10, 11, 12, 13, 14, 15, math.MaxInt} {
			ofA := func(v int, f int, p int) (impl.Iv, int) { return impl.Enclose(fn, turns, f, v, 3, p) }
			ofB := func(v int, f int, p int) (impl.Iv, int) { return impl.Enclose(fn, turns, f, 3, v, p) }
			checkAnswersAtAnything(t, "Enclose", ofA)
			checkAnswersAtAnything(t, "Enclose", ofB)
		}
	}
	for _, v := range append(goodIvs(), badIvs()...) {
		x, rooms := layIv(v)
		for _, n := range []int{math.MinInt, -1, 0, 1, math.MaxInt} {
			impl.Tight(x, n)
		}
		checkApart(t, "Tight", rooms)
	}
	for _, f := range slices.Concat(noPoints, []int{0, 60}) {
		checkApart(t, "Rungs", nil, impl.Rungs(f), impl.Rungs(f))
	}
}

func TestEncloseIsAnsweredAgain(t *testing.T) {
	t.Parallel()
	var all sync.WaitGroup
	for fn := impl.FuExp; fn < impl.Funs; fn++ {
		all.Go(func() {
			checkAnsweredAgain(t, "Enclose", func(v int, f int, p int) (impl.Iv, int) { return impl.Enclose(fn, fn%2 == 0, f, v, v+1, p) })
		})
	}
	all.Wait()
}
