package tests

import (
	"math"
	"math/big"
	"strings"
	"testing"

	"loop.example/g00481/impl"
)

// Promise 9: what is shown is read as it was, in whichever way it is rounded.

// v by 2^F, as a fraction tells it with more digits than there can be; noughts at the end are cut off.
func shown(f impl.Fmt, v int) string {
	text := new(big.Rat).SetFrac(big.NewInt(int64(v)), near(f.F, 0)).FloatString(70)
	text = strings.TrimRight(text, "0")
	return strings.TrimSuffix(text, ".")
}

// What Parse must answer of a text that is a decimal.
func parsed(t *testing.T, f impl.Fmt, mode int, policy int, s string) (int, int) {
	t.Helper()
	number, ok := new(big.Rat).SetString(s)
	if !ok {
		t.Fatalf("%q is no fraction", s)
	}
	up := new(big.Int).Lsh(number.Num(), uint(f.F))
	return fitted(f, policy, roundedFrac(up, number.Denom(), mode))
}

// Decimals: noughts at both ends, halves, as long as they may be, and some between.
func decimals() []string {
	return []string{
		"0", "-0", "0.0", "-0.0", "0.000", "-0." + strings.Repeat("0", 80), "1", "-1", "5", "10", "-10", "100.00", "0.5", "-0.5", "0.50", "1.5", "-1.5", "2.5", "-2.50", "3.5",
		"0.1", "-0.1", "0.01", "0.001", "-0.999", "7.96875", "-7.96875", "7.9999", "-8.03125", "8", "-8", "-8.0001", "9", "255", "256", "-129", "127.5", "-128.5", "127.49", "1000", "1001.001",
		"0.03125", "0.031250000000000000000000000000000000000000001", "0.03124999999999999999999999999999999999999",
		"0.0" + strings.Repeat("9", 79), "0." + strings.Repeat("0", 79) + "1", "-0." + strings.Repeat("0", 79) + "1", "0." + strings.Repeat("9", 80),
		strings.Repeat("9", 20), "-" + strings.Repeat("9", 20), strings.Repeat("9", 20) + "." + strings.Repeat("9", 80), "-" + strings.Repeat("1", 20) + "." + strings.Repeat("0", 80),
		"1" + strings.Repeat("0", 19), "1152921504606846975", "1152921504606846976", "1152921504606846975.5", "576460752303423487.5", "-576460752303423488", "-576460752303423488.5", "9223372036854775808", "18446744073709551616",
	}
}

// Texts that are no decimal.
func noDecimals() []string {
	return []string{
		"", "-", "+", ".", "-.", "--", "--1", "-+1", "+1", "+0", "1-", "1-1", "- 1", "-.5", ".5", "5.", "-5.", "0.", "-0.", ".0", "..", "1..2", "1.2.3", "1.2.", ".1.2", "1.-2", "1.+2",
		"00", "-00", "01", "-01", "00.5", "007", "000000000000000000001", "00000000000000000000", "-0" + strings.Repeat("1", 19),
		strings.Repeat("9", 21), "-" + strings.Repeat("9", 21), "1" + strings.Repeat("0", 20), strings.Repeat("1", 21) + ".5", "0." + strings.Repeat("0", 81), "0." + strings.Repeat("9", 81), "-1." + strings.Repeat("5", 81), strings.Repeat("9", 21) + "." + strings.Repeat("9", 81),
		" 1", "1 ", " ", "1 .5", "1. 5", "-1 ", "1\n", "\t1", "1\x00", "\x001", "1,5", "1e5", "1E5", "0x1", "1_0", "a", "1a", "a1", "1.a", "1.5a", "1/2", "1:", "/", ":", "0.:", "0./", "inf", "NaN",
		"\u0661", "\uff11", "1.\u0665", "\u22121", "1\u00b75", "\xff", "1\xb1", "1.\xb1", "\xb2",
		strings.Repeat("0", 1<<20), strings.Repeat("1", 1<<20), strings.Repeat("-", 1<<20), strings.Repeat(".", 1<<20), "0." + strings.Repeat("0", 1<<20), "1" + strings.Repeat(" ", 1<<20),
	}
}

func briefly(s string) string { return s[:min(len(s), 110)] }

func TestShowNamedNumbers(t *testing.T) {
	if impl.MaxWholes != 20 || impl.MaxParts != 80 {
		t.Error("MaxWholes, MaxParts:", impl.MaxWholes, impl.MaxParts)
	}
	cases := []struct {
		f    impl.Fmt
		v    int
		want string
	}{
		{impl.Fmt{Signed: true, W: 8, F: 4}, 0, "0"}, {impl.Fmt{W: 8, F: 8}, 0, "0"}, {impl.Fmt{W: 8}, 0, "0"},
		{impl.Fmt{Signed: true, W: 8, F: 4}, 16, "1"}, {impl.Fmt{Signed: true, W: 8, F: 4}, 160 - 256, "-6"}, {impl.Fmt{W: 8, F: 4}, 160, "10"},
		{impl.Fmt{Signed: true, W: 8, F: 4}, -24, "-1.5"}, {impl.Fmt{Signed: true, W: 8, F: 4}, 1, "0.0625"}, {impl.Fmt{Signed: true, W: 8, F: 4}, -1, "-0.0625"},
		{impl.Fmt{Signed: true, W: 8, F: 4}, -128, "-8"}, {impl.Fmt{Signed: true, W: 8, F: 4}, 127, "7.9375"}, {impl.Fmt{W: 8, F: 4}, 255, "15.9375"},
		{impl.Fmt{Signed: true, W: 8}, -128, "-128"}, {impl.Fmt{W: 8}, 200, "200"}, {impl.Fmt{Signed: true, W: 8, F: 8}, -128, "-0.5"}, {impl.Fmt{W: 8, F: 8}, 255, "0.99609375"},
		{impl.Fmt{W: 16, F: 12}, 41, "0.010009765625"}, {impl.Fmt{W: 12, F: 10}, 1025, "1.0009765625"},
		{impl.Fmt{W: 60}, 1<<60 - 1, "1152921504606846975"}, {impl.Fmt{Signed: true, W: 60}, -1 << 59, "-576460752303423488"},
		{impl.Fmt{W: 60, F: 60}, 1, "0.000000000000000000867361737988403547205962240695953369140625"},
		{impl.Fmt{W: 60, F: 60}, 1 << 59, "0.5"}, {impl.Fmt{Signed: true, W: 60, F: 60}, -1 << 59, "-0.5"},
	}
	for _, c := range cases {
		if got := impl.Show(c.f, c.v); got != c.want {
			t.Errorf("Show(%v, %d) = %q, want %q", c.f, c.v, got, c.want)
		}
	}
}

func TestWhatIsShownIsReadInEveryWay(t *testing.T) {
	for _, f := range allFormats() {
		for _, v := range rawsOf(f) {
			text := impl.Show(f, v)
			if text != shown(f, v) {
				t.Fatalf("Show(%v, %d) = %q, want %q", f, v, text, shown(f, v))
			}
			for _, mode := range allModes {
				policy := (mode + v&3) % 3
				if got, how := impl.Parse(f, mode, policy, text); got != v || how != impl.StOk {
					t.Fatalf("Parse(%v, %d, %d, %q) = %d, %d, want %d", f, mode, policy, text, got, how, v)
				}
			}
		}
	}
}

func TestAllOfShortFormatsAreShownAndRead(t *testing.T) {
	for w := 2; w <= 7; w++ {
		for point := 0; point <= w; point++ {
			for _, f := range []impl.Fmt{{Signed: true, W: w, F: point}, {W: w, F: point}} {
				least, most := boundsOf(f)
				for v := least; v <= most; v++ {
					text := impl.Show(f, v)
					for _, mode := range allModes {
						if got, how := impl.Parse(f, mode, impl.PoError, text); got != v || how != impl.StOk || text != shown(f, v) {
							t.Fatalf("%v, %d is shown as %q and read as %d, %d", f, v, text, got, how)
						}
					}
				}
			}
		}
	}
}

func TestShowRefuses(t *testing.T) {
	for _, f := range allFormats() {
		least, most := boundsOf(f)
		for _, v := range []int{least - 1, most + 1, math.MinInt, math.MinInt + 1, math.MaxInt} {
			if got := impl.Show(f, v); got != "" {
				t.Errorf("Show(%v, %d) = %q", f, v, got)
			}
		}
	}
	for _, f := range noFormats() {
		for _, v := range append(edgeNumbers(), 0, -1) {
			if got := impl.Show(f, v); got != "" {
				t.Errorf("Show(%v, %d) = %q", f, v, got)
			}
		}
	}
}

func TestParseEveryModeAndPolicy(t *testing.T) {
	for _, s := range decimals() {
		for _, f := range someFormats() {
			for _, mode := range allModes {
				for _, policy := range allPolicies {
					v, how := impl.Parse(f, mode, policy, s)
					if want, came := parsed(t, f, mode, policy, s); v != want || how != came {
						t.Fatalf("Parse(%v, %d, %d, %q) = %d, %d, want %d, %d", f, mode, policy, s, v, how, want, came)
					}
				}
			}
		}
	}
}

// Halves and what is just beside them, as far behind the point as there may be digits.
func TestParseHalves(t *testing.T) {
	f := impl.Fmt{Signed: true, W: 8, F: 1}
	for n := -9; n <= 9; n++ {
		// (2n + 1) quarters.
		half := shown(impl.Fmt{Signed: true, W: 9, F: 2}, 2*n+1)
		texts := []string{half, half + "0", half + "000001"}
		if strings.HasSuffix(half, "5") {
			digits := len(half) - strings.Index(half, ".") - 1
			texts = append(texts, half[:len(half)-1]+"4"+strings.Repeat("9", 80-digits), half+strings.Repeat("0", 79-digits)+"1", half+strings.Repeat("0", 80-digits))
		}
		for _, s := range texts {
			for _, mode := range allModes {
				v, how := impl.Parse(f, mode, impl.PoError, s)
				if want, came := parsed(t, f, mode, impl.PoError, s); v != want || how != came {
					t.Errorf("Parse(%v, %d, PoError, %q) = %d, %d, want %d, %d", f, mode, s, v, how, want, came)
				}
			}
		}
	}
}

func TestParseNamedTexts(t *testing.T) {
	f, bare := impl.Fmt{Signed: true, W: 8, F: 4}, impl.Fmt{W: 8, F: 4}
	cases := []struct {
		f      impl.Fmt
		mode   int
		policy int
		s      string
		v, how int
	}{
		{f, impl.MdDown, impl.PoSat, "0.1", 1, impl.StOk}, {f, impl.MdUp, impl.PoSat, "0.1", 2, impl.StOk}, {f, impl.MdEven, impl.PoSat, "-0.1", -2, impl.StOk},
		{f, impl.MdEven, impl.PoSat, "0.03125", 0, impl.StOk}, {f, impl.MdAway, impl.PoSat, "0.03125", 1, impl.StOk}, {f, impl.MdAway, impl.PoSat, "-0.03125", -1, impl.StOk},
		{f, impl.MdEven, impl.PoSat, "9", 127, impl.StSat}, {f, impl.MdEven, impl.PoError, "9", 0, impl.StOver}, {f, impl.MdEven, impl.PoWrap, "9", -112, impl.StWrap},
		{f, impl.MdEven, impl.PoSat, "-99999999999999999999", -128, impl.StSat}, {f, impl.MdEven, impl.PoWrap, "-8.0625", 127, impl.StWrap},
		{bare, impl.MdZero, impl.PoError, "-0.01", 0, impl.StOk}, {bare, impl.MdDown, impl.PoError, "-0.01", 0, impl.StOver}, {bare, impl.MdDown, impl.PoWrap, "-0.01", 255, impl.StWrap},
		{bare, impl.MdDown, impl.PoError, "-0", 0, impl.StOk}, {bare, impl.MdDown, impl.PoError, "-0.00", 0, impl.StOk}, {bare, impl.MdUp, impl.PoSat, "15.95", 255, impl.StSat},
	}
	for _, c := range cases {
		if v, how := impl.Parse(c.f, c.mode, c.policy, c.s); v != c.v || how != c.how {
			t.Errorf("Parse(%v, %d, %d, %q) = %d, %d, want %d, %d", c.f, c.mode, c.policy, c.s, v, how, c.v, c.how)
		}
	}
}

func TestDecimalTellsDigitsAndParts(t *testing.T) {
	for _, s := range decimals() {
		digits, parts := strings.Replace(s, ".", "", 1), 0
		if at := strings.Index(s, "."); at >= 0 {
			parts = len(s) - at - 1
		}
		want, _ := new(big.Int).SetString(digits, 10)
		got, behind, ok := impl.Decimal(s)
		checkWhole(t, "Decimal of "+s, got, ok, want)
		if behind != parts {
			t.Errorf("Decimal(%q): %d digits behind the point", s, behind)
		}
	}
}

func TestDecimalNamedTexts(t *testing.T) {
	cases := []struct {
		s     string
		want  string
		parts int
	}{
		{"-3.140", "-3140", 3}, {"0.050", "50", 3}, {"-0.0", "0", 1}, {"-0", "0", 0}, {"10", "10", 0}, {"10.0", "100", 1}, {"-0.1", "-1", 1},
	}
	for _, c := range cases {
		got, parts, ok := impl.Decimal(c.s)
		if !ok || impl.WholeText(got) != c.want || parts != c.parts || !impl.WholeOk(got) {
			t.Errorf("Decimal(%q) = %v, %d, %v", c.s, got, parts, ok)
		}
	}
}

func TestWhatIsNoDecimal(t *testing.T) {
	for _, s := range noDecimals() {
		got, parts, ok := impl.Decimal(s)
		refusedWhole(t, "Decimal of "+briefly(s), got, ok)
		if parts != 0 {
			t.Errorf("Decimal(%q): %d digits behind the point", briefly(s), parts)
		}
		for _, mode := range allModes {
			for _, policy := range allPolicies {
				if v, how := impl.Parse(impl.Fmt{Signed: true, W: 16, F: 8}, mode, policy, s); v != 0 || how != impl.StBad {
					t.Errorf("Parse of %q = %d, %d, want 0 and StBad", briefly(s), v, how)
				}
			}
		}
	}
}

// Of all short texts just those are decimals that are so as the document says.
func TestDecimalOfAllShortTexts(t *testing.T) {
	signs := "-.019 /:"
	var check func(ahead string, more int)
	check = func(ahead string, more int) {
		size := strings.TrimPrefix(ahead, "-")
		wholes, parts, point := strings.Cut(size, ".")
		digits := func(s string) bool { return s != "" && strings.Trim(s, "019") == "" }
		want := digits(wholes) && (len(wholes) == 1 || wholes[0] != '0') && (!point || digits(parts))
		_, _, ok := impl.Decimal(ahead)
		_, how := impl.Parse(impl.Fmt{Signed: true, W: 30, F: 15}, impl.MdEven, impl.PoSat, ahead)
		if ok != want || (how != impl.StBad) != want {
			t.Errorf("%q: %v and %d, want %v", ahead, ok, how, want)
		}
		if more > 0 {
			for i := range len(signs) {
				check(ahead+signs[i:i+1], more-1)
			}
		}
	}
	check("", 5)
}

func TestParseRefuses(t *testing.T) {
	good := impl.Fmt{Signed: true, W: 8, F: 4}
	bad := func(f impl.Fmt, mode int, policy int, s string) {
		t.Helper()
		if v, how := impl.Parse(f, mode, policy, s); v != 0 || how != impl.StBad {
			t.Errorf("Parse(%v, %d, %d, %q) = %d, %d, want 0 and StBad", f, mode, policy, briefly(s), v, how)
		}
	}
	for _, s := range []string{"1", "0", "-0.5", "99999999999999999999", "x", ""} {
		for _, f := range noFormats() {
			bad(f, impl.MdEven, impl.PoSat, s)
		}
		for _, mode := range noModes {
			bad(good, mode, impl.PoSat, s)
		}
		for _, policy := range noPolicies {
			bad(good, impl.MdEven, policy, s)
		}
	}
}

// Promise 29: every function answers at any arguments, and writes into none.

func TestDecimalTextsAnswerAtAnything(t *testing.T) {
	defer mustNotPanic(t)
	texts := append(append(edgeTexts(), noDecimals()...), decimals()...)
	for _, s := range texts {
		impl.Decimal(s)
		for _, ahead := range []string{"", "-", "0.", "-1.", "1"} {
			impl.Decimal(ahead + s)
			impl.Parse(impl.Fmt{W: 60, F: 60}, impl.MdUp, impl.PoWrap, ahead+s)
		}
	}
	for _, f := range append(noFormats(), impl.Fmt{W: 60, F: 60}, impl.Fmt{Signed: true, W: 60}) {
		for _, v := range edgeNumbers() {
			impl.Show(f, v)
		}
		for _, mode := range append(allModes, noModes...) {
			for _, policy := range append(allPolicies, noPolicies...) {
				impl.Parse(f, mode, policy, "-12.5")
			}
		}
	}
}

func TestDecimalKeepsNothing(t *testing.T) {
	first, _, _ := impl.Decimal("-12.5")
	first.Mag[0] = 7
	second, _, _ := impl.Decimal("-12.5")
	if impl.WholeText(second) != "-125" || shareMemory(first.Mag, second.Mag) {
		t.Error("Decimal hands out what it keeps:", second)
	}
}
