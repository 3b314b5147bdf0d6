package tests

import (
	"fmt"
	"math"
	"math/big"
	"strings"
	"testing"

	"loop.example/g00481/impl"
)

// Promise 7: a raw number is read from its word as it was; what fits is left as it is.

var allPolicies = []int{impl.PoSat, impl.PoError, impl.PoWrap}

var noPolicies = []int{-1, -2, 3, 4, 1 << 32, math.MinInt, math.MaxInt}

// The least and the greatest raw number, as the document tells them.
func boundsOf(f impl.Fmt) (int, int) {
	if f.Signed {
		return -1 << (f.W - 1), 1<<(f.W-1) - 1
	}
	return 0, 1<<f.W - 1
}

// Raw numbers of a format: about its edges and about 0, and some between.
func rawsOf(f impl.Fmt) []int {
	least, most := boundsOf(f)
	var out []int
	for _, v := range []int{least, least + 1, least / 2, least / 3, -2, -1, 0, 1, 2, most / 3, most / 2, most/2 + 1, most - 1, most} {
		if v >= least && v <= most {
			out = append(out, v)
		}
	}
	return out
}

// What Fit must answer of a number, whatever its size.
func fitted(f impl.Fmt, policy int, a *big.Int) (int, int) {
	least, most := boundsOf(f)
	below := a.Cmp(big.NewInt(int64(least))) < 0
	above := a.Cmp(big.NewInt(int64(most))) > 0
	switch {
	case !below && !above:
		return int(a.Int64()), impl.StOk
	case policy == impl.PoError:
		return 0, impl.StOver
	case policy == impl.PoSat && below:
		return least, impl.StSat
	case policy == impl.PoSat:
		return most, impl.StSat
	}
	left := int(new(big.Int).Mod(a, near(f.W, 0)).Int64())
	if left > most {
		left -= 1 << f.W
	}
	return left, impl.StWrap
}

func checkFit(t *testing.T, f impl.Fmt, a *big.Int) {
	t.Helper()
	for _, policy := range allPolicies {
		v, how := impl.Fit(f, policy, wholeOf(a))
		if want, came := fitted(f, policy, a); v != want || how != came {
			t.Fatalf("Fit(%v, %d, %v) = %d, %d, want %d, %d", f, policy, a, v, how, want, came)
		}
	}
}

func TestPoliciesAndStatusesAreNumbered(t *testing.T) {
	if impl.PoSat != 0 || impl.PoError != 1 || impl.PoWrap != 2 {
		t.Error("policies")
	}
	statuses := []int{impl.StOk, impl.StSat, impl.StOver, impl.StWrap, impl.StDomain, impl.StHard, impl.StBad}
	for i, status := range statuses {
		if status != i {
			t.Error("status", i, "is", status)
		}
	}
}

func TestRawIsReadFromItsWord(t *testing.T) {
	for _, f := range allFormats() {
		for _, v := range rawsOf(f) {
			word := impl.WordOf(f, v)
			if word < 0 || word >= 1<<f.W || (word-v)%(1<<f.W) != 0 || (v >= 0 && word != v) {
				t.Errorf("WordOf(%v, %d) = %d", f, v, word)
			}
			if got, ok := impl.RawOf(f, word); got != v || !ok {
				t.Errorf("RawOf(%v, %d) = %d, %v, want %d", f, word, got, ok, v)
			}
		}
		half := 1 << (f.W - 1)
		for _, word := range []int{0, 1, half - 1, half, 2*half - 2, 2*half - 1} {
			v, ok := impl.RawOf(f, word)
			if !ok || !impl.RawOk(f, v) || impl.WordOf(f, v) != word {
				t.Errorf("RawOf(%v, %d) = %d, %v", f, word, v, ok)
			}
		}
	}
}

// Of short formats each raw number has a word of its own, and each word a raw number.
func TestAllWordsOfShortFormats(t *testing.T) {
	for w := 2; w <= 8; w++ {
		for _, f := range []impl.Fmt{{Signed: true, W: w, F: w}, {Signed: true, W: w}, {W: w, F: 1}} {
			least, most := boundsOf(f)
			for v := least; v <= most; v++ {
				if got, ok := impl.RawOf(f, impl.WordOf(f, v)); got != v || !ok {
					t.Errorf("%v: raw %d comes back as %d, %v", f, v, got, ok)
				}
			}
			for word := range 1 << w {
				if v, ok := impl.RawOf(f, word); !ok || impl.WordOf(f, v) != word {
					t.Errorf("%v: word %d is %d, %v", f, word, v, ok)
				}
			}
		}
	}
}

func TestNamedWords(t *testing.T) {
	cases := []struct {
		f       impl.Fmt
		v, word int
		bits    string
	}{
		{impl.Fmt{Signed: true, W: 2}, -2, 2, "10"},
		{impl.Fmt{Signed: true, W: 2, F: 2}, -1, 3, ".11"},
		{impl.Fmt{Signed: true, W: 2, F: 1}, 1, 1, "0.1"},
		{impl.Fmt{W: 2, F: 2}, 3, 3, ".11"},
		{impl.Fmt{W: 2}, 2, 2, "10"},
		{impl.Fmt{Signed: true, W: 8, F: 4}, -24, 232, "1110.1000"},
		{impl.Fmt{Signed: true, W: 8, F: 7}, -128, 128, "1.0000000"},
		{impl.Fmt{Signed: true, W: 8, F: 8}, 127, 127, ".01111111"},
		{impl.Fmt{W: 8, F: 1}, 255, 255, "1111111.1"},
		{impl.Fmt{W: 8}, 5, 5, "00000101"},
		{impl.Fmt{Signed: true, W: 60}, -1, 1<<60 - 1, strings.Repeat("1", 60)},
		{impl.Fmt{Signed: true, W: 60, F: 60}, -1 << 59, 1 << 59, ".1" + strings.Repeat("0", 59)},
		{impl.Fmt{Signed: true, W: 60, F: 59}, 1<<59 - 1, 1<<59 - 1, "0." + strings.Repeat("1", 59)},
		{impl.Fmt{W: 60, F: 60}, 1, 1, "." + strings.Repeat("0", 59) + "1"},
		{impl.Fmt{W: 60, F: 30}, 0, 0, strings.Repeat("0", 30) + "." + strings.Repeat("0", 30)},
	}
	for _, c := range cases {
		word, bits := impl.WordOf(c.f, c.v), impl.BitsText(c.f, c.v)
		if word != c.word || bits != c.bits {
			t.Errorf("%v, %d: %d and %q, want %d and %q", c.f, c.v, word, bits, c.word, c.bits)
		}
	}
}

func TestBitsTextIsTheWord(t *testing.T) {
	for _, f := range allFormats() {
		for _, v := range rawsOf(f) {
			word := v
			if v < 0 {
				word += 1 << f.W
			}
			want := fmt.Sprintf("%0*b", f.W, word)
			if f.F > 0 {
				want = want[:f.W-f.F] + "." + want[f.W-f.F:]
			}
			if got := impl.BitsText(f, v); got != want {
				t.Errorf("BitsText(%v, %d) = %q, want %q", f, v, got, want)
			}
		}
	}
}

func TestWordsRefuse(t *testing.T) {
	for _, f := range allFormats() {
		least, most := boundsOf(f)
		for _, v := range []int{least - 1, most + 1, least - 1<<f.W, most + 1<<f.W, math.MinInt, math.MinInt + 1, math.MaxInt} {
			if word, bits := impl.WordOf(f, v), impl.BitsText(f, v); word != -1 || bits != "" {
				t.Errorf("%v, %d: %d and %q, want -1 and nothing", f, v, word, bits)
			}
		}
		for _, word := range []int{-1, -2, least - 1, 1 << f.W, 1<<f.W + 1, math.MinInt, math.MaxInt} {
			if v, ok := impl.RawOf(f, word); v != 0 || ok {
				t.Errorf("RawOf(%v, %d) = %d, %v, want 0 and false", f, word, v, ok)
			}
		}
	}
	for _, f := range noFormats() {
		for _, v := range append(edgeNumbers(), 0, -1) {
			got, ok := impl.RawOf(f, v)
			if impl.WordOf(f, v) != -1 || impl.BitsText(f, v) != "" || got != 0 || ok {
				t.Errorf("%v, %d: %d, %q, %d, %v", f, v, impl.WordOf(f, v), impl.BitsText(f, v), got, ok)
			}
		}
	}
}

func TestWhatFitsIsLeft(t *testing.T) {
	for _, f := range allFormats() {
		for _, v := range rawsOf(f) {
			for _, policy := range allPolicies {
				if got, how := impl.Fit(f, policy, impl.WholeOf(v)); got != v || how != impl.StOk {
					t.Errorf("Fit(%v, %d, %d) = %d, %d", f, policy, v, got, how)
				}
			}
		}
	}
}

func TestFitNamedNumbers(t *testing.T) {
	withSign, without := impl.Fmt{Signed: true, W: 8, F: 4}, impl.Fmt{W: 8, F: 8}
	cases := []struct {
		f      impl.Fmt
		policy int
		n      int
		v, how int
	}{
		{withSign, impl.PoSat, 128, 127, impl.StSat}, {withSign, impl.PoSat, -129, -128, impl.StSat},
		{withSign, impl.PoError, 128, 0, impl.StOver}, {withSign, impl.PoError, -129, 0, impl.StOver},
		{withSign, impl.PoWrap, 128, -128, impl.StWrap}, {withSign, impl.PoWrap, -129, 127, impl.StWrap},
		{withSign, impl.PoWrap, 256, 0, impl.StWrap}, {withSign, impl.PoWrap, -256, 0, impl.StWrap},
		{withSign, impl.PoWrap, 1000, -24, impl.StWrap}, {withSign, impl.PoWrap, -1000, 24, impl.StWrap},
		{without, impl.PoSat, 256, 255, impl.StSat}, {without, impl.PoSat, -1, 0, impl.StSat},
		{without, impl.PoError, 256, 0, impl.StOver}, {without, impl.PoError, -1, 0, impl.StOver},
		{without, impl.PoWrap, 256, 0, impl.StWrap}, {without, impl.PoWrap, -1, 255, impl.StWrap},
		{without, impl.PoWrap, -256, 0, impl.StWrap}, {without, impl.PoWrap, -257, 255, impl.StWrap},
		{without, impl.PoWrap, math.MinInt, 0, impl.StWrap}, {withSign, impl.PoSat, math.MinInt, -128, impl.StSat},
		{without, impl.PoWrap, math.MaxInt, 255, impl.StWrap}, {withSign, impl.PoWrap, math.MaxInt, -1, impl.StWrap},
	}
	for _, c := range cases {
		if v, how := impl.Fit(c.f, c.policy, impl.WholeOf(c.n)); v != c.v || how != c.how {
			t.Errorf("Fit(%v, %d, %d) = %d, %d, want %d, %d", c.f, c.policy, c.n, v, how, c.v, c.how)
		}
	}
}

// One beyond an edge, a multiple of 2^W away from a raw number and beside that, and as far as there are numbers.
func TestFitBeyondEachFormat(t *testing.T) {
	for _, f := range allFormats() {
		for _, v := range rawsOf(f) {
			for _, turns := range []int64{-1 << 40, -3, -2, -1, 1, 2, 3, 1 << 40} {
				a := new(big.Int).Lsh(big.NewInt(turns), uint(f.W))
				a.Add(a, big.NewInt(int64(v)))
				checkFit(t, f, a)
			}
		}
		least, most := boundsOf(f)
		for d := int64(0); d <= 3; d++ {
			checkFit(t, f, big.NewInt(int64(least)-d))
			checkFit(t, f, big.NewInt(int64(most)+d))
		}
		full := near(mostBits, -1)
		checkFit(t, f, full)
		checkFit(t, f, new(big.Int).Neg(full))
		checkFit(t, f, near(mostBits-1, 1))
		checkFit(t, f, new(big.Int).Neg(near(mostBits-1, 1)))
	}
}

func TestFitGreatNumbers(t *testing.T) {
	formats := []impl.Fmt{{W: 2}, {Signed: true, W: 2}, {Signed: true, W: 24}, {W: 25, F: 25}, {Signed: true, W: 48, F: 3}, {W: 49}, {Signed: true, W: 60}, {W: 60, F: 60}}
	for _, a := range goodWholes() {
		for _, f := range formats {
			checkFit(t, f, bigOfWhole(a))
		}
	}
}

func TestFitRefuses(t *testing.T) {
	bad := func(f impl.Fmt, policy int, a impl.Whole) {
		t.Helper()
		if v, how := impl.Fit(f, policy, a); v != 0 || how != impl.StBad {
			t.Errorf("Fit(%v, %d, %v) = %d, %d, want 0 and StBad", f, policy, shortened(a), v, how)
		}
	}
	good := impl.Fmt{Signed: true, W: 8, F: 4}
	numbers := []impl.Whole{impl.WholeOf(0), impl.WholeOf(5), impl.WholeOf(-1), impl.WholeOf(1 << 40), impl.WholeOf(math.MinInt)}
	for _, a := range numbers {
		for _, f := range noFormats() {
			for _, policy := range allPolicies {
				bad(f, policy, a)
			}
		}
		for _, policy := range noPolicies {
			bad(good, policy, a)
			bad(impl.Fmt{}, policy, a)
		}
	}
	for _, a := range badWholes() {
		for _, policy := range append(allPolicies, noPolicies...) {
			bad(good, policy, a)
			bad(impl.Fmt{W: 60}, policy, a)
		}
	}
}

// Promise 29: every function answers at any arguments, and writes into none.

func TestWordsAnswerAtAnything(t *testing.T) {
	defer mustNotPanic(t)
	numbers := []int{math.MinInt, math.MinInt + 1, -1, 0, 1, 2, 59, 60, 61, 63, 64, 65, 1 << 32, math.MaxInt - 1, math.MaxInt}
	wholes := []impl.Whole{{}, {Neg: true}, {Mag: []int{math.MinInt}}, {Neg: true, Mag: []int{math.MaxInt}}, impl.WholeOf(math.MinInt)}
	for _, w := range numbers {
		for _, point := range numbers {
			for _, withSign := range []bool{false, true} {
				f := impl.Fmt{Signed: withSign, W: w, F: point}
				for _, v := range edgeNumbers() {
					impl.WordOf(f, v)
					impl.RawOf(f, v)
					impl.BitsText(f, v)
				}
				for _, a := range wholes {
					for _, policy := range append(allPolicies, noPolicies...) {
						impl.Fit(f, policy, a)
					}
				}
			}
		}
	}
}

func TestFitWritesIntoNothing(t *testing.T) {
	defer mustNotPanic(t)
	for _, a := range append(goodWholes(), badWholes()...) {
		x, room := layWhole(a)
		for _, policy := range append(allPolicies, noPolicies...) {
			for _, f := range []impl.Fmt{{}, {W: 8}, {Signed: true, W: 60, F: 60}} {
				impl.Fit(f, policy, x)
			}
		}
		checkApart(t, "Fit", []laid{room})
	}
}
