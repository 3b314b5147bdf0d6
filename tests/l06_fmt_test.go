package tests

import (
	"fmt"
	"math"
	"slices"
	"strings"
	"testing"

	"loop.example/g00481/impl"
)

// Promise 6: a format is read from its text as it was.

func allFormats() []impl.Fmt {
	var out []impl.Fmt
	for w := 2; w <= 60; w++ {
		for f := 0; f <= w; f++ {
			out = append(out, impl.Fmt{Signed: true, W: w, F: f}, impl.Fmt{W: w, F: f})
		}
	}
	return out
}

func noFormats() []impl.Fmt {
	var out []impl.Fmt
	for _, withSign := range []bool{false, true} {
		for _, c := range [][2]int{
			{0, 0}, {1, 0}, {1, 1}, {61, 0}, {61, 60}, {61, 61}, {-1, 0}, {-1, -1}, {-60, 0}, {64, 0}, {62, 1},
			{2, -1}, {2, 3}, {16, -1}, {16, 17}, {60, -1}, {60, 61}, {16, math.MinInt}, {16, math.MaxInt},
			{math.MinInt, 0}, {math.MaxInt, 0}, {math.MinInt, math.MinInt}, {math.MaxInt, math.MaxInt}, {math.MinInt, math.MaxInt}, {math.MaxInt, math.MinInt},
			{1<<32 + 16, 4}, {16, 1<<32 + 4},
		} {
			out = append(out, impl.Fmt{Signed: withSign, W: c[0], F: c[1]})
		}
	}
	return out
}

func nameOf(f impl.Fmt) string {
	if f.Signed {
		return fmt.Sprintf("Q%d.%d", f.W-f.F, f.F)
	}
	return fmt.Sprintf("UQ%d.%d", f.W-f.F, f.F)
}

func TestFmtOkTellsFormats(t *testing.T) {
	if impl.MaxW != 60 {
		t.Error("MaxW", impl.MaxW)
	}
	for _, withSign := range []bool{false, true} {
		for w := -3; w <= 64; w++ {
			for f := -3; f <= 66; f++ {
				got := impl.FmtOk(impl.Fmt{Signed: withSign, W: w, F: f})
				if got != (w >= 2 && w <= 60 && f >= 0 && f <= w) {
					t.Errorf("FmtOk of %v, %d, %d is %v", withSign, w, f, got)
				}
			}
		}
	}
	for _, f := range noFormats() {
		if impl.FmtOk(f) {
			t.Errorf("FmtOk(%v) is true", f)
		}
	}
}

func TestLeastAndMostOfNamedFormats(t *testing.T) {
	cases := []struct {
		f           impl.Fmt
		least, most int
	}{
		{impl.Fmt{Signed: true, W: 2}, -2, 1},
		{impl.Fmt{W: 2, F: 2}, 0, 3},
		{impl.Fmt{Signed: true, W: 16, F: 12}, -32768, 32767},
		{impl.Fmt{W: 16, F: 12}, 0, 65535},
		{impl.Fmt{Signed: true, W: 60, F: 60}, -576460752303423488, 576460752303423487},
		{impl.Fmt{W: 60}, 0, 1152921504606846975},
	}
	for _, c := range cases {
		if impl.Least(c.f) != c.least || impl.Most(c.f) != c.most {
			t.Errorf("%v: from %d to %d", c.f, impl.Least(c.f), impl.Most(c.f))
		}
	}
}

func TestRawOkFromLeastToMost(t *testing.T) {
	for _, f := range allFormats() {
		least, most := 0, 1<<f.W-1
		if f.Signed {
			least, most = -1<<(f.W-1), 1<<(f.W-1)-1
		}
		if impl.Least(f) != least || impl.Most(f) != most {
			t.Errorf("%v: from %d to %d", f, impl.Least(f), impl.Most(f))
		}
		for _, v := range []int{least, least + 1, -1, 0, 1, most - 1, most} {
			if impl.RawOk(f, v) != (v >= least) {
				t.Errorf("RawOk(%v, %d) is %v", f, v, impl.RawOk(f, v))
			}
		}
		for _, v := range []int{least - 1, most + 1, math.MinInt, math.MaxInt} {
			if impl.RawOk(f, v) {
				t.Errorf("RawOk(%v, %d) is true", f, v)
			}
		}
	}
}

func TestFmtTextIsReadAsItWas(t *testing.T) {
	for _, f := range allFormats() {
		text := impl.FmtText(f)
		if text != nameOf(f) {
			t.Errorf("FmtText(%v) = %q", f, text)
		}
		if got, ok := impl.FmtOf(text); got != f || !ok {
			t.Errorf("FmtOf(%q) = %v, %v", text, got, ok)
		}
	}
}

func TestWhatIsNoFormat(t *testing.T) {
	for _, f := range noFormats() {
		if impl.Least(f) != 0 || impl.Most(f) != 0 || impl.FmtText(f) != "" {
			t.Errorf("%v: %d, %d, %q", f, impl.Least(f), impl.Most(f), impl.FmtText(f))
		}
		for _, v := range append(edgeNumbers(), -1) {
			if impl.RawOk(f, v) {
				t.Errorf("RawOk(%v, %d) is true", f, v)
			}
		}
	}
}

func TestFmtOfRefuses(t *testing.T) {
	cases := []string{
		"", "Q", "U", "UQ", ".", "Q.", "UQ.", "Q4", "UQ4", "4.12", "U4.12", "Q4.", "Q.12", "UQ4.", "UQ.12", "Q.0", "Q0.",
		"Q04.12", "Q4.012", "Q00.12", "Q4.00", "UQ00.60", "UQ0.060", "Q02.2", "Q2.02", "Q000000000000000000004.12",
		"Q-4.12", "Q4.-12", "Q+4.12", "Q4.+12", "-Q4.12", "+Q4.12", "UQ-0.4", "Q-0.16", "Q17.-1", "Q-1.17",
		"Q4..12", "Q4.1.2", "Q.4.12", "Q4.12.", ".Q4.12", "Q4.12.0", "Q4,12", "Q412",
		"Q4.12 ", " Q4.12", "Q 4.12", "Q4 .12", "Q4.12\n", "Q4.12\x00", "\x00Q4.12", "Q4.12x", "Q4.12Q", "Q4.12U", "Q4.U12", "Q4Q.12", "Q4.Q12", "4Q.12", "4.12Q", "4.12UQ",
		"q4.12", "uq4.12", "Uq4.12", "uQ4.12", "QQ4.12", "UUQ4.12", "UQQ4.12", "QU4.12", "QUQ4.12",
		"Q1.0", "Q0.1", "Q0.0", "UQ1.0", "UQ0.0", "UQ0.1", "Q1.60", "Q60.1", "Q61.0", "Q0.61", "UQ61.0", "UQ30.31", "Q60.60", "Q100.0", "Q609.609",
		"Q18446744073709551620.12", "Q4294967300.12", "Q4.4294967308", "Q4.18446744073709551628", "Q-9223372036854775804.12",
		"Q4.1\u0662", "Q\u0664.12", "Q\uff14.12", "\uff314.12", "Q4\u00b712", "Q4.12\u0301", "Q4.\xff12", "Q\xb44.12", "\xffQ4.12", "Q4.12\xff", "Q4.12\xed\xa0\x80",
		strings.Repeat("Q", 1<<20), strings.Repeat("U", 1<<20), strings.Repeat(".", 1<<20), "Q" + strings.Repeat("0", 1<<20) + "4.12", "Q4." + strings.Repeat("9", 1<<20), strings.Repeat("Q4.12", 1<<18),
	}
	for _, s := range cases {
		if got, ok := impl.FmtOf(s); got != (impl.Fmt{}) || ok {
			t.Errorf("FmtOf(%q) = %v, %v, want zero and false", s[:min(len(s), 60)], got, ok)
		}
	}
}

// Of texts that are nearly a format's FmtOf must know just those that are one's.
func TestFmtOfNearlyTexts(t *testing.T) {
	known := map[string]impl.Fmt{}
	for _, f := range allFormats() {
		known[nameOf(f)] = f
	}
	check := func(s string) {
		want, is := known[s]
		if got, ok := impl.FmtOf(s); got != want || ok != is {
			t.Errorf("FmtOf(%q) = %v, %v, want %v, %v", s, got, ok, want, is)
		}
	}
	signs := "0123456789.QUqu-+ ,x\x00\n\xff/:"
	for _, text := range []string{"Q4.12", "UQ0.60", "Q60.0", "UQ2.0", "Q1.1", "UQ30.30", "Q10.0", "Q0.2"} {
		for i := 0; i <= len(text); i++ {
			for j := range len(signs) {
				check(text[:i] + signs[j:j+1] + text[i:])
				if i < len(text) {
					check(text[:i] + signs[j:j+1] + text[i+1:])
					check(text[:i] + text[i+1:])
				}
			}
		}
	}
	for w := -2; w <= 64; w++ {
		for f := -2; f <= 64; f++ {
			check(fmt.Sprintf("Q%d.%d", w, f))
			check(fmt.Sprintf("UQ%d.%d", w, f))
			check(fmt.Sprintf("Q0%d.%d", w, f))
			check(fmt.Sprintf("UQ%d.0%d", w, f))
		}
	}
}

// Promise 29: every function answers at any arguments, and writes into none.

func TestFormatsAnswerAtAnything(t *testing.T) {
	defer mustNotPanic(t)
	numbers := []int{math.MinInt, math.MinInt + 1, -1, 0, 1, 2, 59, 60, 61, 63, 64, 65, 1 << 32, math.MaxInt - 1, math.MaxInt}
	for _, w := range numbers {
		for _, f := range numbers {
			for _, withSign := range []bool{false, true} {
				x := impl.Fmt{Signed: withSign, W: w, F: f}
				impl.FmtOk(x)
				impl.Least(x)
				impl.Most(x)
				impl.FmtText(x)
				for _, v := range edgeNumbers() {
					impl.RawOk(x, v)
				}
			}
		}
	}
	for _, s := range edgeTexts() {
		for _, ahead := range []string{"", "Q", "UQ", "Q4.", "UQ4."} {
			impl.FmtOf(ahead + s)
			impl.FmtOf(s + ahead)
		}
	}
}

func TestFmtTextIsNewEachTime(t *testing.T) {
	f := impl.Fmt{Signed: true, W: 16, F: 12}
	texts := []string{impl.FmtText(f), impl.FmtText(impl.Fmt{}), impl.FmtText(f)}
	if !slices.Equal(texts, []string{"Q4.12", "", "Q4.12"}) {
		t.Error(texts)
	}
}
