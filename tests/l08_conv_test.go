package tests

import (
	"math"
	"math/big"
	"testing"

	"loop.example/g00481/impl"
)

// Promise 8: what a format holds comes back from it as it was.

// Formats about the edges: short and long ones, the point at either end and between.
func someFormats() []impl.Fmt {
	var out []impl.Fmt
	for _, c := range [][2]int{
		{2, 0}, {2, 1}, {2, 2}, {3, 0}, {3, 2}, {4, 4}, {6, 2}, {8, 0}, {8, 4}, {8, 8}, {9, 4}, {13, 4}, {16, 12},
		{30, 15}, {31, 0}, {31, 31}, {32, 16}, {33, 33}, {58, 58}, {59, 0}, {59, 29}, {59, 59}, {60, 0}, {60, 1}, {60, 30}, {60, 59}, {60, 60},
	} {
		out = append(out, impl.Fmt{Signed: true, W: c[0], F: c[1]}, impl.Fmt{W: c[0], F: c[1]})
	}
	return out
}

// v by 2^(src's F), times 2^(dst's F), rounded; and what is made of it in dst.
func converted(src impl.Fmt, dst impl.Fmt, mode int, policy int, v int) (int, int) {
	up := new(big.Int).Lsh(big.NewInt(int64(v)), uint(dst.F))
	return fitted(dst, policy, roundedFrac(up, near(src.F, 0), mode))
}

func holds(src impl.Fmt, dst impl.Fmt) bool {
	if dst.F < src.F {
		return false
	}
	least, most := boundsOf(src)
	for _, v := range []int{least, most} {
		if _, how := fitted(dst, impl.PoError, new(big.Int).Lsh(big.NewInt(int64(v)), uint(dst.F-src.F))); how != impl.StOk {
			return false
		}
	}
	return true
}

func TestConvertNamedNumbers(t *testing.T) {
	quarters := impl.Fmt{Signed: true, W: 6, F: 2}
	sixteenths := impl.Fmt{Signed: true, W: 8, F: 4}
	wholes := impl.Fmt{Signed: true, W: 4}
	bare := impl.Fmt{W: 4}
	cases := []struct {
		name     string
		src, dst impl.Fmt
		v        int
		want     [5]int
		how      int
	}{
		{"10.75 quarters", sixteenths, quarters, 43, [5]int{10, 11, 10, 11, 11}, impl.StOk},
		{"-10.75 quarters", sixteenths, quarters, -43, [5]int{-11, -10, -10, -11, -11}, impl.StOk},
		{"10.5 quarters", sixteenths, quarters, 42, [5]int{10, 11, 10, 10, 11}, impl.StOk},
		{"-10.5 quarters", sixteenths, quarters, -42, [5]int{-11, -10, -10, -10, -11}, impl.StOk},
		{"11.5 quarters", sixteenths, quarters, 46, [5]int{11, 12, 11, 12, 12}, impl.StOk},
		{"2.5", quarters, wholes, 10, [5]int{2, 3, 2, 2, 3}, impl.StOk},
		{"-0.25", quarters, wholes, -1, [5]int{-1, 0, 0, 0, 0}, impl.StOk},
		{"-0.5", quarters, wholes, -2, [5]int{-1, 0, 0, 0, -1}, impl.StOk},
		{"0.5", quarters, bare, 2, [5]int{0, 1, 0, 0, 1}, impl.StOk},
		{"3 up", wholes, sixteenths, 3, [5]int{48, 48, 48, 48, 48}, impl.StOk},
		{"-8 up", wholes, sixteenths, -8, [5]int{-128, -128, -128, -128, -128}, impl.StOk},
		{"9 to less", bare, wholes, 9, [5]int{7, 7, 7, 7, 7}, impl.StSat},
		{"-3 without a sign", wholes, bare, -3, [5]int{0, 0, 0, 0, 0}, impl.StSat},
	}
	for _, c := range cases {
		for _, mode := range allModes {
			if v, how := impl.Convert(c.src, c.dst, mode, impl.PoSat, c.v); v != c.want[mode] || how != c.how {
				t.Errorf("%s, mode %d: %d, %d, want %d, %d", c.name, mode, v, how, c.want[mode], c.how)
			}
		}
	}
}

// -0.25 without a sign: whether it fits hangs on how it is rounded.
func TestConvertRoundsAheadOfTheFit(t *testing.T) {
	quarters, bare := impl.Fmt{Signed: true, W: 6, F: 2}, impl.Fmt{W: 4}
	for _, mode := range allModes {
		for _, policy := range allPolicies {
			v, how := impl.Convert(quarters, bare, mode, policy, -1)
			want, came := 0, impl.StOk
			if mode == impl.MdDown {
				want, came = [3]int{0, 0, 15}[policy], [3]int{impl.StSat, impl.StOver, impl.StWrap}[policy]
			}
			if v != want || how != came {
				t.Errorf("mode %d, policy %d: %d, %d, want %d, %d", mode, policy, v, how, want, came)
			}
		}
	}
	// 7.75 is rounded up to 8, which is one too many.
	if v, how := impl.Convert(quarters, impl.Fmt{Signed: true, W: 4}, impl.MdEven, impl.PoWrap, 31); v != -8 || how != impl.StWrap {
		t.Error("7.75:", v, how)
	}
	if v, how := impl.Convert(quarters, impl.Fmt{Signed: true, W: 4}, impl.MdZero, impl.PoWrap, 31); v != 7 || how != impl.StOk {
		t.Error("7.75 to nought:", v, how)
	}
}

func TestConvertEveryModeAndPolicy(t *testing.T) {
	for _, src := range someFormats() {
		for _, dst := range someFormats() {
			for i, v := range rawsOf(src) {
				for _, mode := range allModes {
					policy := (i + mode) % 3
					got, how := impl.Convert(src, dst, mode, policy, v)
					if want, came := converted(src, dst, mode, policy, v); got != want || how != came {
						t.Fatalf("Convert(%v, %v, %d, %d, %d) = %d, %d, want %d, %d", src, dst, mode, policy, v, got, how, want, came)
					}
				}
			}
		}
	}
}

// All raw numbers of short formats: every half, in every mode, with every policy.
func TestConvertAllOfShortFormats(t *testing.T) {
	short := []impl.Fmt{{Signed: true, W: 6, F: 3}, {W: 6, F: 3}, {Signed: true, W: 5, F: 5}, {W: 5, F: 4}, {Signed: true, W: 4, F: 1}, {W: 4}, {Signed: true, W: 3, F: 2}, {W: 2, F: 2}}
	for _, src := range short {
		least, most := boundsOf(src)
		for _, dst := range short {
			for v := least; v <= most; v++ {
				for _, mode := range allModes {
					for _, policy := range allPolicies {
						got, how := impl.Convert(src, dst, mode, policy, v)
						if want, came := converted(src, dst, mode, policy, v); got != want || how != came {
							t.Fatalf("Convert(%v, %v, %d, %d, %d) = %d, %d, want %d, %d", src, dst, mode, policy, v, got, how, want, came)
						}
					}
				}
			}
		}
	}
}

func TestWhatIsHeldComesBack(t *testing.T) {
	pairs := 0
	for _, src := range allFormats() {
		for _, dst := range someFormats() {
			if !impl.Holds(src, dst) {
				continue
			}
			pairs++
			for i, v := range rawsOf(src) {
				mode, policy := i%5, i%3
				there, how := impl.Convert(src, dst, mode, policy, v)
				back, came := impl.Convert(dst, src, (mode+2)%5, (policy+1)%3, there)
				if how != impl.StOk || came != impl.StOk || back != v {
					t.Fatalf("%d of %v in %v is %d, %d, and back %d, %d", v, src, dst, there, how, back, came)
				}
			}
		}
	}
	if pairs < 1000 {
		t.Error("few pairs hold each other:", pairs)
	}
}

func TestHoldsOfEachPair(t *testing.T) {
	for _, src := range someFormats() {
		for _, dst := range allFormats() {
			if got := impl.Holds(src, dst); got != holds(src, dst) {
				t.Errorf("Holds(%v, %v) is %v", src, dst, got)
			}
			if got := impl.Holds(dst, src); got != holds(dst, src) {
				t.Errorf("Holds(%v, %v) is %v", dst, src, got)
			}
		}
	}
}

func TestHoldsByOneBit(t *testing.T) {
	cases := []struct {
		src, dst impl.Fmt
		want     bool
	}{
		{impl.Fmt{Signed: true, W: 8, F: 4}, impl.Fmt{Signed: true, W: 8, F: 4}, true},
		{impl.Fmt{Signed: true, W: 8, F: 4}, impl.Fmt{Signed: true, W: 7, F: 4}, false},
		{impl.Fmt{Signed: true, W: 8, F: 4}, impl.Fmt{Signed: true, W: 9, F: 5}, true},
		{impl.Fmt{Signed: true, W: 8, F: 4}, impl.Fmt{Signed: true, W: 9, F: 6}, false},
		{impl.Fmt{Signed: true, W: 8, F: 4}, impl.Fmt{Signed: true, W: 60, F: 3}, false},
		{impl.Fmt{W: 8, F: 4}, impl.Fmt{Signed: true, W: 8, F: 4}, false},
		{impl.Fmt{W: 8, F: 4}, impl.Fmt{Signed: true, W: 9, F: 4}, true},
		{impl.Fmt{W: 8, F: 4}, impl.Fmt{W: 8, F: 4}, true},
		{impl.Fmt{W: 8, F: 4}, impl.Fmt{W: 8, F: 5}, false},
		{impl.Fmt{Signed: true, W: 2}, impl.Fmt{W: 60}, false},
		{impl.Fmt{W: 60}, impl.Fmt{W: 60}, true},
		{impl.Fmt{W: 60}, impl.Fmt{Signed: true, W: 60}, false},
		{impl.Fmt{W: 2}, impl.Fmt{W: 60, F: 58}, true},
		{impl.Fmt{W: 2}, impl.Fmt{W: 60, F: 59}, false},
		{impl.Fmt{W: 2, F: 2}, impl.Fmt{W: 60, F: 60}, true},
		{impl.Fmt{Signed: true, W: 2, F: 2}, impl.Fmt{Signed: true, W: 60, F: 60}, true},
		{impl.Fmt{W: 2, F: 2}, impl.Fmt{Signed: true, W: 60, F: 60}, false},
		{impl.Fmt{W: 60}, impl.Fmt{W: 60, F: 60}, false},
	}
	for _, c := range cases {
		if got := impl.Holds(c.src, c.dst); got != c.want {
			t.Errorf("Holds(%v, %v) is %v", c.src, c.dst, got)
		}
	}
}

// The least format is sought among all.
func TestCommonIsTheLeast(t *testing.T) {
	for _, a := range someFormats() {
		for _, b := range someFormats() {
			want := impl.Fmt{Signed: a.Signed || b.Signed, W: 2, F: max(a.F, b.F)}
			for want.W <= 60 && !(want.W >= want.F && holds(a, want) && holds(b, want)) {
				want.W++
			}
			if want.W > 60 {
				want = impl.Fmt{}
			}
			if got, ok := impl.Common(a, b); got != want || ok != (want.W > 0) {
				t.Errorf("Common(%v, %v) = %v, %v, want %v", a, b, got, ok, want)
			}
		}
	}
}

func TestCommonNamedFormats(t *testing.T) {
	cases := []struct {
		a, b, want impl.Fmt
		ok         bool
	}{
		{impl.Fmt{W: 8}, impl.Fmt{Signed: true, W: 8, F: 4}, impl.Fmt{Signed: true, W: 13, F: 4}, true},
		{impl.Fmt{W: 8, F: 4}, impl.Fmt{W: 6, F: 1}, impl.Fmt{W: 9, F: 4}, true},
		{impl.Fmt{Signed: true, W: 2, F: 2}, impl.Fmt{Signed: true, W: 2, F: 2}, impl.Fmt{Signed: true, W: 2, F: 2}, true},
		{impl.Fmt{W: 30}, impl.Fmt{W: 30, F: 30}, impl.Fmt{W: 60, F: 30}, true},
		{impl.Fmt{W: 31}, impl.Fmt{W: 30, F: 30}, impl.Fmt{}, false},
		{impl.Fmt{W: 29}, impl.Fmt{Signed: true, W: 30, F: 30}, impl.Fmt{Signed: true, W: 60, F: 30}, true},
		{impl.Fmt{W: 30}, impl.Fmt{Signed: true, W: 30, F: 30}, impl.Fmt{}, false},
		{impl.Fmt{W: 60}, impl.Fmt{Signed: true, W: 2}, impl.Fmt{}, false},
		{impl.Fmt{W: 59}, impl.Fmt{Signed: true, W: 2}, impl.Fmt{Signed: true, W: 60}, true},
		{impl.Fmt{W: 60}, impl.Fmt{W: 60, F: 60}, impl.Fmt{}, false},
	}
	for _, c := range cases {
		for _, pair := range [][2]impl.Fmt{{c.a, c.b}, {c.b, c.a}} {
			if got, ok := impl.Common(pair[0], pair[1]); got != c.want || ok != c.ok {
				t.Errorf("Common(%v, %v) = %v, %v", pair[0], pair[1], got, ok)
			}
		}
	}
}

func TestConvertRefuses(t *testing.T) {
	good := impl.Fmt{Signed: true, W: 8, F: 4}
	bad := func(src impl.Fmt, dst impl.Fmt, mode int, policy int, v int) {
		t.Helper()
		if got, how := impl.Convert(src, dst, mode, policy, v); got != 0 || how != impl.StBad {
			t.Errorf("Convert(%v, %v, %d, %d, %d) = %d, %d, want 0 and StBad", src, dst, mode, policy, v, got, how)
		}
	}
	for _, none := range noFormats() {
		for _, v := range []int{0, 1, -1} {
			bad(none, good, impl.MdEven, impl.PoSat, v)
			bad(good, none, impl.MdEven, impl.PoSat, v)
			bad(none, none, impl.MdEven, impl.PoSat, v)
		}
		for _, f := range append(noFormats(), someFormats()...) {
			got, ok := impl.Common(none, f)
			other, fine := impl.Common(f, none)
			if impl.Holds(none, f) || impl.Holds(f, none) || got != (impl.Fmt{}) || ok || other != (impl.Fmt{}) || fine {
				t.Errorf("%v and %v: %v, %v", none, f, got, other)
			}
		}
	}
	for _, mode := range noModes {
		bad(good, good, mode, impl.PoSat, 5)
	}
	for _, policy := range noPolicies {
		bad(good, good, impl.MdEven, policy, 5)
	}
	for _, src := range someFormats() {
		least, most := boundsOf(src)
		for _, v := range []int{least - 1, most + 1, math.MinInt, math.MaxInt} {
			for _, policy := range allPolicies {
				bad(src, impl.Fmt{Signed: true, W: 60}, impl.MdDown, policy, v)
				bad(src, src, impl.MdUp, policy, v)
			}
		}
	}
}

// Promise 29: every function answers at any arguments.

func TestFromFormatToFormatAnswersAtAnything(t *testing.T) {
	defer mustNotPanic(t)
	formats := append(noFormats(), impl.Fmt{W: 60, F: 60}, impl.Fmt{Signed: true, W: 60}, impl.Fmt{W: 2})
	for _, src := range formats {
		for _, dst := range formats {
			impl.Holds(src, dst)
			impl.Common(src, dst)
			for _, v := range []int{math.MinInt, -1, 0, 1, math.MaxInt} {
				for _, mode := range append(allModes, noModes...) {
					for _, policy := range append(allPolicies, noPolicies...) {
						impl.Convert(src, dst, mode, policy, v)
					}
				}
			}
		}
	}
}
