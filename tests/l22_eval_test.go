package tests

import (
	"math"
	"math/big"
	"slices"
	"sync"
	"testing"

	"loop.example/g00481/impl"
)

// Promise 22: a word that is answered is what every rung that decides tells; down and up are a step apart; rising functions rise; odd functions are odd.

func confOf(in impl.Fmt, out impl.Fmt, mode int, policy int, turns bool) impl.Conf {
	return impl.Conf{In: in, Out: out, Mode: mode, Policy: policy, Turns: turns}
}

func rounding(c impl.Conf, mode int) impl.Conf {
	c.Mode = mode
	return c
}

func fmtOk(f impl.Fmt) bool { return f.W >= 2 && f.W <= 60 && f.F >= 0 && f.F <= f.W }

func rawOk(f impl.Fmt, v int) bool {
	least, most := boundsOf(f)
	return v >= least && v <= most
}

func takesTwo(fn int) bool {
	return slices.Contains([]string{"mul", "div", "hypot", "atan2"}, funNames[fn])
}

// What the functions below FuExp are, times 2^F, rounded.
func directly(c impl.Conf, fn int, a int, b int) *big.Int {
	x, y := bigInt(a), bigInt(b)
	in, out := c.In.F, uint(c.Out.F)
	switch funNames[fn] {
	case "mul":
		product := new(big.Int).Mul(x, y)
		return roundedFrac(product.Lsh(product, out), near(2*in, 0), c.Mode)
	case "div":
		if b < 0 {
			x, y = negativeOf(x), negativeOf(y)
		}
		return roundedFrac(new(big.Int).Lsh(x, out), y, c.Mode)
	case "sqrt":
		return roundedRoot(new(big.Int).Lsh(x, 2*out), in, c.Mode)
	}
	square := new(big.Int).Add(new(big.Int).Mul(x, x), new(big.Int).Mul(y, y))
	return roundedRoot(square.Lsh(square, 2*out), 2*in, c.Mode)
}

// A value that is not whole, times 2^f, rounded.
func roundedReal(value *big.Float, f int, mode int) *big.Int {
	up := scaled(value, f)
	floor, _ := up.Int(nil)
	if up.Sign() < 0 {
		floor.Sub(floor, big.NewInt(1))
	}
	half := lessOf(up, realOf(floor)).Cmp(scaled(exactly(1), -1))
	return rounded(floor, false, half, up.Sign() > 0, mode)
}

// True values that were reckoned once.
type truths map[[5]int]*big.Float

func (known truths) of(c impl.Conf, fn int, a int, b int) *big.Float {
	key := [5]int{fn, c.In.F, a, b, 0}
	if c.Turns {
		key[4] = 1
	}
	if known[key] == nil {
		known[key] = trueValue(fn, c.Turns, c.In.F, a, b)
	}
	return known[key]
}

func (known truths) eval(c impl.Conf, fn int, a int, b int) (int, int) {
	if !fmtOk(c.In) || !fmtOk(c.Out) || !slices.Contains(allModes, c.Mode) || !slices.Contains(allPolicies, c.Policy) || fn < 0 || fn >= 15 {
		return 0, impl.StBad
	}
	if !takesTwo(fn) {
		b = 0
	}
	switch {
	case !rawOk(c.In, a) || !rawOk(c.In, b):
		return 0, impl.StBad
	case !inDomain(fn, c.Turns, c.In.F, a, b):
		return 0, impl.StDomain
	case fn < impl.FuExp:
		return fitted(c.Out, c.Policy, directly(c, fn, a, b))
	}
	if n, shift, ok := exactValue(fn, c.Turns, c.In.F, a, b); ok {
		number := new(big.Int).Lsh(bigInt(n), uint(c.Out.F))
		return fitted(c.Out, c.Policy, roundedFrac(number, near(shift, 0), c.Mode))
	}
	if code := enclosedCode(fn, c.In.F, a); code != impl.EnOk {
		least, most := boundsOf(c.Out)
		switch {
		case c.Policy != impl.PoSat:
			return 0, impl.StOver
		case code == impl.EnLess:
			return least, impl.StSat
		}
		return most, impl.StSat
	}
	return fitted(c.Out, c.Policy, roundedReal(known.of(c, fn, a, b), c.Out.F, c.Mode))
}

func (known truths) check(t *testing.T, c impl.Conf, fn int, a int, b int) {
	t.Helper()
	want, came := known.eval(c, fn, a, b)
	if v, how := impl.Eval(c, fn, a, b); v != want || how != came {
		t.Fatalf("Eval(%v, %d, %d, %d) = %d, %d, want %d, %d", c, fn, a, b, v, how, want, came)
	}
}

func (known truths) checkModes(t *testing.T, c impl.Conf, fn int, a int, b int) {
	t.Helper()
	for _, mode := range allModes {
		known.check(t, rounding(c, mode), fn, a, b)
	}
}

func TestConfOkTellsConfs(t *testing.T) {
	good, other := impl.Fmt{Signed: true, W: 16, F: 12}, impl.Fmt{W: 60, F: 60}
	for _, mode := range slices.Concat(allModes, noModes) {
		for _, policy := range slices.Concat(allPolicies, noPolicies) {
			want := slices.Contains(allModes, mode) && slices.Contains(allPolicies, policy)
			for _, turns := range bothWays {
				if impl.ConfOk(confOf(good, other, mode, policy, turns)) != want || impl.ConfOk(confOf(other, good, mode, policy, turns)) != want {
					t.Errorf("ConfOk of mode %d and policy %d is %v", mode, policy, !want)
				}
			}
		}
	}
	for _, bad := range noFormats() {
		if impl.ConfOk(confOf(bad, good, 0, 0, false)) || impl.ConfOk(confOf(good, bad, 0, 0, false)) || impl.ConfOk(confOf(bad, bad, 0, 0, true)) {
			t.Errorf("ConfOk with %v", bad)
		}
	}
	if impl.ConfOk(impl.Conf{}) {
		t.Error("the zero Conf has no formats")
	}
	for _, f := range allFormats() {
		if !impl.ConfOk(confOf(f, good, 0, 0, false)) || !impl.ConfOk(confOf(good, f, 4, 2, true)) {
			t.Errorf("ConfOk with %v is false", f)
		}
	}
}

func TestEvalNamedOnes(t *testing.T) {
	q8, q12 := impl.Fmt{Signed: true, W: 16, F: 8}, impl.Fmt{Signed: true, W: 16, F: 12}
	wholes := impl.Fmt{Signed: true, W: 8}
	halves, quarters := impl.Fmt{Signed: true, W: 8, F: 1}, impl.Fmt{Signed: true, W: 8, F: 2}
	bare := impl.Fmt{W: 8}
	cases := []struct {
		name    string
		in, out impl.Fmt
		turns   bool
		fn      int
		a, b    int
		want    [5]int
		how     int
	}{
		{"e", q8, q12, false, impl.FuExp, 256, 0, [5]int{11134, 11135, 11134, 11134, 11134}, impl.StOk},
		{"1 by e", q8, q12, false, impl.FuExp, -256, 0, [5]int{1506, 1507, 1506, 1507, 1507}, impl.StOk},
		{"the logarithm of 2", q8, q12, false, impl.FuLog, 512, 0, [5]int{2839, 2840, 2839, 2839, 2839}, impl.StOk},
		{"the logarithm of a half", q8, q12, false, impl.FuLog, 128, 0, [5]int{-2840, -2839, -2839, -2839, -2839}, impl.StOk},
		{"the sine of 1", q8, q12, false, impl.FuSin, 256, 0, [5]int{3446, 3447, 3446, 3447, 3447}, impl.StOk},
		{"the sine of -1", q8, q12, false, impl.FuSin, -256, 0, [5]int{-3447, -3446, -3446, -3447, -3447}, impl.StOk},
		{"the sine of an eighth", q8, q12, true, impl.FuSin, 32, 0, [5]int{2896, 2897, 2896, 2896, 2896}, impl.StOk},
		{"the sine of a quarter", q8, q12, true, impl.FuSin, 64, 0, [5]int{4096, 4096, 4096, 4096, 4096}, impl.StOk},
		{"the cosine of half a turn", q8, q12, true, impl.FuCos, -128, 0, [5]int{-4096, -4096, -4096, -4096, -4096}, impl.StOk},
		{"half pi", q8, q12, false, impl.FuAtan2, 1, 0, [5]int{6433, 6434, 6433, 6434, 6434}, impl.StOk},
		{"a quarter of a turn", q8, q12, true, impl.FuAtan2, 1, 0, [5]int{1024, 1024, 1024, 1024, 1024}, impl.StOk},
		// Eighths of a turn where there are fewer bits behind the point than they need.
		{"three eighths in quarters", q8, quarters, true, impl.FuAtan2, 5, -5, [5]int{1, 2, 1, 2, 2}, impl.StOk},
		{"-three eighths in quarters", q8, quarters, true, impl.FuAtan2, -5, -5, [5]int{-2, -1, -1, -2, -2}, impl.StOk},
		{"an eighth in quarters", q8, quarters, true, impl.FuAtan, 256, 0, [5]int{0, 1, 0, 0, 1}, impl.StOk},
		{"-an eighth in quarters", q8, quarters, true, impl.FuAtan, -256, 0, [5]int{-1, 0, 0, 0, -1}, impl.StOk},
		{"half a turn in wholes", q8, wholes, true, impl.FuAtan2, 0, -1, [5]int{0, 1, 0, 0, 1}, impl.StOk},
		{"an eighth in wholes", q8, wholes, true, impl.FuAtan, 256, 0, [5]int{0, 1, 0, 0, 0}, impl.StOk},
		// Halves, above and below nought.
		{"1.5 times 3 in wholes", halves, wholes, false, impl.FuMul, 3, 6, [5]int{4, 5, 4, 4, 5}, impl.StOk},
		{"-1.5 times 3", halves, wholes, false, impl.FuMul, -3, 6, [5]int{-5, -4, -4, -4, -5}, impl.StOk},
		{"-1.5 times -5", halves, wholes, false, impl.FuMul, -3, -10, [5]int{7, 8, 7, 8, 8}, impl.StOk},
		{"1.5 times -5", halves, wholes, false, impl.FuMul, 3, -10, [5]int{-8, -7, -7, -8, -8}, impl.StOk},
		{"0.5 times 0.5 in halves", halves, halves, false, impl.FuMul, 1, 1, [5]int{0, 1, 0, 0, 1}, impl.StOk},
		{"5 by 2", wholes, wholes, false, impl.FuDiv, 5, 2, [5]int{2, 3, 2, 2, 3}, impl.StOk},
		{"5 by -2", wholes, wholes, false, impl.FuDiv, 5, -2, [5]int{-3, -2, -2, -2, -3}, impl.StOk},
		{"-7 by 2", wholes, wholes, false, impl.FuDiv, -7, 2, [5]int{-4, -3, -3, -4, -4}, impl.StOk},
		{"-7 by -2", wholes, wholes, false, impl.FuDiv, -7, -2, [5]int{3, 4, 3, 4, 4}, impl.StOk},
		{"2 by 3", wholes, wholes, false, impl.FuDiv, 2, 3, [5]int{0, 1, 0, 1, 1}, impl.StOk},
		{"-1 by 3", wholes, wholes, false, impl.FuDiv, -1, 3, [5]int{-1, 0, 0, 0, 0}, impl.StOk},
		{"0 by -3", wholes, wholes, false, impl.FuDiv, 0, -3, [5]int{0, 0, 0, 0, 0}, impl.StOk},
		{"the root of 2.25", quarters, wholes, false, impl.FuSqrt, 9, 0, [5]int{1, 2, 1, 2, 2}, impl.StOk},
		{"the root of 6.25", quarters, wholes, false, impl.FuSqrt, 25, 0, [5]int{2, 3, 2, 2, 3}, impl.StOk},
		{"the root of 4", quarters, wholes, false, impl.FuSqrt, 16, 0, [5]int{2, 2, 2, 2, 2}, impl.StOk},
		{"the root of 0.25", quarters, wholes, false, impl.FuSqrt, 1, 0, [5]int{0, 1, 0, 0, 1}, impl.StOk},
		{"the root of 0", quarters, wholes, false, impl.FuSqrt, 0, 0, [5]int{0, 0, 0, 0, 0}, impl.StOk},
		{"1.5 and 2", halves, wholes, false, impl.FuHypot, 3, 4, [5]int{2, 3, 2, 2, 3}, impl.StOk},
		{"-1.5 and 2", halves, wholes, false, impl.FuHypot, -3, 4, [5]int{2, 3, 2, 2, 3}, impl.StOk},
		{"-3 and -4", wholes, wholes, false, impl.FuHypot, -3, -4, [5]int{5, 5, 5, 5, 5}, impl.StOk},
		{"3.5 and 0", halves, wholes, false, impl.FuHypot, 7, 0, [5]int{3, 4, 3, 4, 4}, impl.StOk},
		{"0 and 0", wholes, wholes, false, impl.FuHypot, 0, 0, [5]int{0, 0, 0, 0, 0}, impl.StOk},
		// What does not fit.
		{"12 times 12", wholes, wholes, false, impl.FuMul, 12, 12, [5]int{127, 127, 127, 127, 127}, impl.StSat},
		{"12 times -12", wholes, wholes, false, impl.FuMul, 12, -12, [5]int{-128, -128, -128, -128, -128}, impl.StSat},
		{"-128 by -1", wholes, wholes, false, impl.FuDiv, -128, -1, [5]int{127, 127, 127, 127, 127}, impl.StSat},
		{"a sine below 0, without a sign", wholes, bare, false, impl.FuSin, -3, 0, [5]int{0, 0, 0, 0, 0}, impl.StOk},
		// What is not in the domain.
		{"1 by 0", wholes, wholes, false, impl.FuDiv, 1, 0, [5]int{}, impl.StDomain},
		{"the root of -1", wholes, wholes, false, impl.FuSqrt, -1, 0, [5]int{}, impl.StDomain},
		{"the logarithm of 0", wholes, wholes, false, impl.FuLog, 0, 5, [5]int{}, impl.StDomain},
		{"the angle of nowhere", wholes, wholes, true, impl.FuAtan2, 0, 0, [5]int{}, impl.StDomain},
		{"the tangent of a quarter", q8, q12, true, impl.FuTan, 64, 0, [5]int{}, impl.StDomain},
		{"what has no tangent 1", q8, q12, false, impl.FuAtanh, 256, 0, [5]int{}, impl.StDomain},
	}
	known := truths{}
	for _, c := range cases {
		conf := confOf(c.in, c.out, 0, impl.PoSat, c.turns)
		for _, mode := range allModes {
			v, how := impl.Eval(rounding(conf, mode), c.fn, c.a, c.b)
			// The sine of -3 is just below 0: down it is saturated.
			if c.out == bare && mode == impl.MdDown {
				continue
			}
			if v != c.want[mode] || how != c.how {
				t.Errorf("%s by %d: %d, %d, want %d, %d", c.name, mode, v, how, c.want[mode], c.how)
			}
		}
		known.checkModes(t, conf, c.fn, c.a, c.b)
	}
}

// Every word of a short format, each function, each way of rounding, each policy.
func TestEvalOfEveryShortWord(t *testing.T) {
	shorts := []struct{ in, out impl.Fmt }{
		{impl.Fmt{Signed: true, W: 6, F: 3}, impl.Fmt{Signed: true, W: 7, F: 4}},
		{impl.Fmt{Signed: true, W: 6, F: 1}, impl.Fmt{W: 5, F: 0}},
		{impl.Fmt{W: 5, F: 5}, impl.Fmt{Signed: true, W: 6, F: 6}},
		{impl.Fmt{W: 6, F: 2}, impl.Fmt{W: 12, F: 7}},
		{impl.Fmt{Signed: true, W: 6, F: 6}, impl.Fmt{Signed: true, W: 60, F: 58}},
		{impl.Fmt{Signed: true, W: 6, F: 0}, impl.Fmt{Signed: true, W: 9, F: 3}},
	}
	for _, s := range shorts {
		for _, turns := range bothWays {
			t.Run(nameOf(s.in)+" "+nameOf(s.out), func(t *testing.T) {
				t.Parallel()
				known := truths{}
				least, most := boundsOf(s.in)
				for fn := range 15 {
					for a := least; a <= most; a++ {
						for _, b := range []int{least, a, least + most - a, 0, 1, most} {
							if !takesTwo(fn) && b != most {
								continue
							}
							known.checkModes(t, confOf(s.in, s.out, 0, (a-least)%3, turns), fn, a, b)
						}
					}
				}
			})
		}
	}
}

// Words of every format: the edges, and some between.
func TestEvalOfLongWords(t *testing.T) {
	formats := someFormats()
	for part := range 6 {
		t.Run("part", func(t *testing.T) {
			t.Parallel()
			m := &mixer{state: 22222222 + uint64(part)}
			known := truths{}
			for range 100 {
				c := confOf(formats[m.below(len(formats))], formats[m.below(len(formats))], m.below(5), m.below(3), m.below(2) == 0)
				raws := rawsOf(c.In)
				least, most := boundsOf(c.In)
				raws = append(raws, least+m.below(most-least), least+m.below(most-least))
				for fn := range 15 {
					a, b := raws[m.below(len(raws))], raws[m.below(len(raws))]
					known.check(t, c, fn, a, b)
				}
			}
		})
	}
}

// The least and the greatest raw number, and one beyond each.
func TestEvalAtTheBoundsOfWhatComes(t *testing.T) {
	t.Parallel()
	known := truths{}
	for i, f := range someFormats() {
		least, most := boundsOf(f)
		c := confOf(f, impl.Fmt{Signed: true, W: 60, F: 20}, i%5, i%3, i%2 == 0)
		for fn := range 15 {
			for _, a := range []int{least, most} {
				known.check(t, c, fn, a, most)
				known.check(t, c, fn, a, least)
			}
			for _, bad := range []int{least - 1, most + 1, math.MinInt, math.MaxInt, mostArg, -mostArg} {
				if v, how := impl.Eval(c, fn, bad, 1); v != 0 || how != impl.StBad {
					t.Fatalf("%s of %d, which is no word of %v: %d, %d", funNames[fn], bad, f, v, how)
				}
				v, how := impl.Eval(c, fn, 1, bad)
				if takesTwo(fn) {
					if v != 0 || how != impl.StBad {
						t.Fatalf("%s of 1 and %d, which is no word of %v: %d, %d", funNames[fn], bad, f, v, how)
					}
					continue
				}
				// It is not looked at.
				if same, too := impl.Eval(c, fn, 1, 0); v != same || how != too || how == impl.StBad {
					t.Fatalf("%s of 1 beside %d: %d, %d, beside 0 %d, %d", funNames[fn], bad, v, how, same, too)
				}
			}
		}
	}
}

// StBad comes first, over all that is asked; then StDomain.
func TestEvalTellsTheFirstReason(t *testing.T) {
	q := impl.Fmt{Signed: true, W: 16, F: 8}
	good := confOf(q, q, impl.MdEven, impl.PoError, true)
	outside := []struct{ fn, a, b int }{{impl.FuDiv, 5, 0}, {impl.FuSqrt, -1, 0}, {impl.FuLog, 0, 0}, {impl.FuAtan2, 0, 0}, {impl.FuAtanh, 256, 0}, {impl.FuTan, 64, 0}}
	for _, o := range outside {
		if v, how := impl.Eval(good, o.fn, o.a, o.b); v != 0 || how != impl.StDomain {
			t.Errorf("%v: %d, %d", o, v, how)
		}
		var bad []impl.Conf
		for _, f := range noFormats() {
			bad = append(bad, confOf(f, q, 3, 1, true), confOf(q, f, 3, 1, true))
		}
		for _, mode := range noModes {
			bad = append(bad, rounding(good, mode))
		}
		for _, policy := range noPolicies {
			bad = append(bad, confOf(q, q, 3, policy, true))
		}
		for _, c := range bad {
			if v, how := impl.Eval(c, o.fn, o.a, o.b); v != 0 || how != impl.StBad {
				t.Errorf("%v with %v: %d, %d", o, c, v, how)
			}
			if v, how := impl.Eval(c, impl.FuMul, 1, 1); v != 0 || how != impl.StBad {
				t.Errorf("1 times 1 with %v: %d, %d", c, v, how)
			}
		}
	}
	for _, fn := range noFuns {
		if v, how := impl.Eval(good, fn, 1, 1); v != 0 || how != impl.StBad {
			t.Errorf("function %d: %d, %d", fn, v, how)
		}
	}
	// What is no word comes ahead of what is outside the domain: 32768 by 0.
	if v, how := impl.Eval(good, impl.FuDiv, 32768, 0); v != 0 || how != impl.StBad {
		t.Error("no word by 0:", v, how)
	}
	// And what is outside the domain ahead of what would be too great.
	if v, how := impl.Eval(good, impl.FuLog, -32768, 99999); v != 0 || how != impl.StDomain {
		t.Error("the logarithm of the least:", v, how)
	}
}

// Too great to be reckoned: with PoSat the most or the least, else over, also with PoWrap.
func TestEvalOfWhatIsTooGreat(t *testing.T) {
	t.Parallel()
	in := impl.Fmt{Signed: true, W: 20, F: 8}
	for _, out := range []impl.Fmt{{Signed: true, W: 16, F: 8}, {W: 16, F: 8}, {Signed: true, W: 60}, {W: 60}, {W: 60, F: 60}, {Signed: true, W: 2, F: 2}} {
		least, most := boundsOf(out)
		for _, mode := range allModes {
			sat, over, wrap := confOf(in, out, mode, impl.PoSat, false), confOf(in, out, mode, impl.PoError, false), confOf(in, out, mode, impl.PoWrap, true)
			for _, o := range []struct{ fn, a, end int }{{impl.FuExp, 64*256 + 1, most}, {impl.FuExp, 1<<19 - 1, most}, {impl.FuSinh, 64*256 + 1, most}, {impl.FuSinh, -64*256 - 1, least}, {impl.FuSinh, -1 << 19, least}, {impl.FuCosh, 64*256 + 1, most}, {impl.FuCosh, -64*256 - 1, most}, {impl.FuCosh, -1 << 19, most}} {
				if v, how := impl.Eval(sat, o.fn, o.a, 0); v != o.end || how != impl.StSat {
					t.Errorf("%s of %d, saturated in %v: %d, %d", funNames[o.fn], o.a, out, v, how)
				}
				if v, how := impl.Eval(over, o.fn, o.a, 0); v != 0 || how != impl.StOver {
					t.Errorf("%s of %d in %v: %d, %d", funNames[o.fn], o.a, out, v, how)
				}
				if v, how := impl.Eval(wrap, o.fn, o.a, 0); v != 0 || how != impl.StOver {
					t.Errorf("%s of %d, wrapped in %v: %d, %d", funNames[o.fn], o.a, out, v, how)
				}
				for _, c := range []impl.Conf{sat, over, wrap} {
					truths{}.check(t, c, o.fn, o.a, 0)
				}
			}
			// 64 itself is reckoned, and wrapped; and what is far below 0 is just above it.
			for _, c := range []impl.Conf{sat, over, wrap} {
				known := truths{}
				for _, a := range []int{64 * 256, -64 * 256, -400 * 256, -400*256 - 1, -1 << 19} {
					for _, fn := range []int{impl.FuExp, impl.FuSinh, impl.FuCosh, impl.FuTanh} {
						known.check(t, c, fn, a, 0)
					}
				}
			}
		}
	}
}

// What is exact, and its neighbours: these are rounded away from it, or to it, as each mode tells.
func TestEvalBesideWhatIsExact(t *testing.T) {
	t.Parallel()
	known := truths{}
	for _, c := range []impl.Conf{
		confOf(impl.Fmt{Signed: true, W: 60, F: 56}, impl.Fmt{Signed: true, W: 60, F: 56}, 0, 0, false),
		confOf(impl.Fmt{Signed: true, W: 60, F: 56}, impl.Fmt{Signed: true, W: 60, F: 57}, 0, 0, true),
		confOf(impl.Fmt{Signed: true, W: 60, F: 57}, impl.Fmt{Signed: true, W: 8, F: 0}, 0, 1, true),
		confOf(impl.Fmt{W: 60, F: 58}, impl.Fmt{W: 60, F: 60}, 0, 2, true),
		confOf(impl.Fmt{Signed: true, W: 12, F: 8}, impl.Fmt{Signed: true, W: 60, F: 58}, 0, 1, true),
	} {
		for _, k := range []int{-8, -6, -3, -2, 0, 1, 2, 4, 5, 8} {
			for d := -1; d <= 1; d++ {
				if a := k*(1<<(c.In.F-3)) + d; rawOk(c.In, a) {
					known.checkWord(t, c, a)
				}
			}
		}
	}
}

// All functions from FuExp on; hyperbolic ones are exact at 0 alone.
func (known truths) checkWord(t *testing.T, c impl.Conf, a int) {
	t.Helper()
	for fn := impl.FuExp; fn < impl.FuSinh; fn++ {
		known.checkModes(t, c, fn, a, 0)
	}
	for fn := impl.FuSinh; fn < impl.Funs && a >= -1 && a <= 1; fn++ {
		known.checkModes(t, c, fn, a, 0)
	}
	if rawOk(c.In, -a) {
		known.checkModes(t, c, impl.FuAtan2, a, -a)
	}
	known.checkModes(t, c, impl.FuAtan2, a, a)
}

// Angles so near to a quarter of a turn that the first rung finds no tangent at all.
func TestEvalOfTangentsNearTheQuarter(t *testing.T) {
	low, high := quarterAngles()
	in := impl.Fmt{W: 60, F: 58}
	known := truths{}
	for _, out := range []impl.Fmt{{Signed: true, W: 60}, {Signed: true, W: 60, F: 30}, {Signed: true, W: 8, F: 8}} {
		for policy := range 3 {
			for _, a := range []int{low >> 2, high>>2 + 1, low>>2 - 1} {
				if _, how := impl.Enclose(impl.FuTan, false, 58, a, 0, 32); out.F == 0 && a == low>>2 && how != impl.EnWide {
					t.Error("the first rung tells", how)
				}
				known.checkModes(t, confOf(in, out, 0, policy, false), impl.FuTan, a, 0)
			}
			for d := -1; d <= 1; d += 2 {
				known.checkModes(t, confOf(in, out, 0, policy, true), impl.FuTan, 1<<56+d, 0)
			}
		}
	}
}

// Each rung that decides tells what is answered.
func TestEvalIsWhatEveryRungTells(t *testing.T) {
	t.Parallel()
	m := &mixer{state: 27182818}
	formats := someFormats()
	undecided := 0
	for range 60 {
		c := confOf(formats[m.below(len(formats))], formats[m.below(len(formats))], m.below(5), impl.PoWrap, m.below(2) == 0)
		raws := rawsOf(c.In)
		for fn := impl.FuExp; fn < impl.Funs; fn++ {
			a, b := raws[m.below(len(raws))], raws[m.below(len(raws))]
			if _, _, ok := impl.Exact(fn, c.Turns, c.In.F, a, b); ok || !impl.InDomain(fn, c.Turns, c.In.F, a, b) {
				continue
			}
			v, how := impl.Eval(c, fn, a, b)
			if how == impl.StHard {
				t.Errorf("%s of %d and %d with %v is hard", funNames[fn], a, b, c)
			}
			for _, p := range impl.Rungs(c.Out.F) {
				held, code := impl.Enclose(fn, c.Turns, c.In.F, a, b, p)
				one, ok := impl.Decide(held, p, c.Out.F, c.Mode)
				if code != impl.EnOk || !ok {
					undecided++
					continue
				}
				if w, too := impl.Fit(c.Out, c.Policy, one); w != v || too != how {
					t.Fatalf("%s of %d and %d with %v: %d, %d, but the rung at %d tells %d, %d", funNames[fn], a, b, c, v, how, p, w, too)
				}
			}
		}
	}
	if undecided == 0 {
		t.Error("every rung decided: none was hard enough")
	}
}

// A sine that is less than the word by 2^-175 of it needs the third rung.
func TestEvalGoesToLaterRungs(t *testing.T) {
	c := confOf(impl.Fmt{Signed: true, W: 60, F: 58}, impl.Fmt{Signed: true, W: 60, F: 58}, impl.MdDown, impl.PoError, false)
	rungs := impl.Rungs(58)
	for i, p := range rungs {
		held, _ := impl.Enclose(impl.FuSin, false, 58, 1, 0, p)
		if _, ok := impl.Decide(held, p, 58, impl.MdDown); ok != (i >= 2) {
			t.Errorf("rung %d decides: %v", i, ok)
		}
	}
	for _, o := range []struct{ fn, a, down, up int }{{impl.FuSin, 1, 0, 1}, {impl.FuSin, -1, -1, 0}, {impl.FuTan, 1, 1, 2}, {impl.FuAtan, 1, 0, 1}, {impl.FuSinh, 1, 1, 2}, {impl.FuTanh, -1, -1, 0}, {impl.FuAtanh, -1, -2, -1}, {impl.FuCos, 1, 1<<58 - 1, 1 << 58}, {impl.FuCosh, -1, 1 << 58, 1<<58 + 1}, {impl.FuExp, 1, 1<<58 + 1, 1<<58 + 2}, {impl.FuLog, 1<<58 + 1, 0, 1}, {impl.FuLog, 1<<58 - 1, -2, -1}} {
		down, up, how := impl.Both(c, o.fn, o.a, 0)
		if down != o.down || up != o.up || how != impl.StOk {
			t.Errorf("%s of %d: %d, %d, %d", funNames[o.fn], o.a, down, up, how)
		}
	}
}

// Both ways round they are a step apart, or the same where the value is a word; the other modes tell one of both.
func TestBothAreAStepApart(t *testing.T) {
	t.Parallel()
	m := &mixer{state: 16180339}
	formats := someFormats()
	told := 0
	for range 120 {
		c := confOf(formats[m.below(len(formats))], formats[m.below(len(formats))], m.below(5), m.below(3), m.below(2) == 0)
		raws := rawsOf(c.In)
		for fn := range 15 {
			a, b := raws[m.below(len(raws))], raws[m.below(len(raws))]
			down, up, how := impl.Both(c, fn, a, b)
			first, one := impl.Eval(rounding(c, impl.MdDown), fn, a, b)
			second, two := impl.Eval(rounding(c, impl.MdUp), fn, a, b)
			if one != impl.StOk || two != impl.StOk {
				want := two
				if one != impl.StOk {
					want = one
				}
				if down != 0 || up != 0 || how != want {
					t.Fatalf("Both of %s of %d and %d with %v: %d, %d, %d, want %d", funNames[fn], a, b, c, down, up, how, want)
				}
				continue
			}
			told++
			if down != first || up != second || how != impl.StOk || up-down < 0 || up-down > 1 {
				t.Fatalf("Both of %s of %d and %d with %v: %d, %d, %d", funNames[fn], a, b, c, down, up, how)
			}
			_, _, exact := exactValue(fn, c.Turns, c.In.F, a, b)
			if fn >= impl.FuExp && !exact && up == down {
				t.Fatalf("Both of %s of %d and %d with %v are %d, and it is no word", funNames[fn], a, b, c, up)
			}
			if v, _ := impl.Eval(c, fn, a, b); v != down && v != up {
				t.Fatalf("%s of %d and %d with %v is %d, neither %d nor %d", funNames[fn], a, b, c, v, down, up)
			}
		}
	}
	if told < 200 {
		t.Error("only", told, "were told")
	}
}

func TestBothNamedOnes(t *testing.T) {
	q := impl.Fmt{Signed: true, W: 8, F: 4}
	bare := impl.Fmt{W: 8, F: 4}
	cases := []struct {
		name            string
		c               impl.Conf
		fn, a, b        int
		down, up, state int
	}{
		{"2 by 3", confOf(q, q, 0, 1, false), impl.FuDiv, 2, 3, 10, 11, impl.StOk},
		{"2 by 4", confOf(q, q, 4, 0, false), impl.FuDiv, 2, 4, 8, 8, impl.StOk},
		{"1 by 0", confOf(q, q, 4, 0, false), impl.FuDiv, 2, 0, 0, 0, impl.StDomain},
		{"no policy", confOf(q, q, 0, 3, false), impl.FuDiv, 2, 3, 0, 0, impl.StBad},
		{"no function", confOf(q, q, 0, 0, false), 15, 2, 3, 0, 0, impl.StBad},
		{"no format", confOf(q, impl.Fmt{}, 0, 0, false), impl.FuDiv, 2, 3, 0, 0, impl.StBad},
		{"too great both ways", confOf(q, q, 0, 0, false), impl.FuMul, 127, 127, 0, 0, impl.StSat},
		{"too great both ways, wrapped", confOf(q, q, 0, 2, false), impl.FuMul, 127, 127, 0, 0, impl.StWrap},
		{"over", confOf(q, q, 0, 1, false), impl.FuMul, 127, 127, 0, 0, impl.StOver},
		{"below nought downward alone", confOf(q, bare, 0, 0, false), impl.FuMul, -1, 1, 0, 0, impl.StSat},
		{"below nought downward alone, over", confOf(q, bare, 0, 1, false), impl.FuMul, -1, 1, 0, 0, impl.StOver},
	}
	for _, c := range cases {
		down, up, how := impl.Both(c.c, c.fn, c.a, c.b)
		if down != c.down || up != c.up || how != c.state {
			t.Errorf("%s: %d, %d, %d, want %d, %d, %d", c.name, down, up, how, c.down, c.up, c.state)
		}
	}
	// 127.9375 sixteenths: 89 times 23 is 2047, by 16. Down it is the most there is; up it is too great.
	for policy, want := range []int{impl.StSat, impl.StOver, impl.StWrap} {
		down, up, how := impl.Both(confOf(q, q, impl.MdEven, policy, false), impl.FuMul, 89, 23)
		if down != 0 || up != 0 || how != want {
			t.Errorf("too great upward alone, by %d: %d, %d, %d", policy, down, up, how)
		}
	}
	// The mode that stands there is not asked, whatever it is.
	for _, mode := range slices.Concat(allModes, noModes) {
		if down, up, how := impl.Both(confOf(q, q, mode, 1, false), impl.FuDiv, 2, 3); down != 10 || up != 11 || how != impl.StOk {
			t.Errorf("beside mode %d: %d, %d, %d", mode, down, up, how)
		}
	}
}

// Rising functions rise, from word to word.
func TestRisingFunctionsRise(t *testing.T) {
	t.Parallel()
	rising := []int{impl.FuSqrt, impl.FuExp, impl.FuLog, impl.FuAtan, impl.FuSinh, impl.FuTanh, impl.FuAtanh}
	confs := []impl.Conf{
		confOf(impl.Fmt{Signed: true, W: 7, F: 4}, impl.Fmt{Signed: true, W: 12, F: 7}, 0, 0, true),
		confOf(impl.Fmt{Signed: true, W: 7, F: 3}, impl.Fmt{Signed: true, W: 6, F: 2}, 0, 0, false),
		confOf(impl.Fmt{W: 7, F: 7}, impl.Fmt{Signed: true, W: 60, F: 56}, 0, 0, false),
	}
	for i, c := range confs {
		least, most := boundsOf(c.In)
		for _, fn := range rising {
			for _, mode := range []int{i, i + 2} {
				last := math.MinInt
				for a := least; a <= most; a++ {
					v, how := impl.Eval(rounding(c, mode), fn, a, 0)
					if how == impl.StDomain {
						continue
					}
					if v < last {
						t.Fatalf("%s of %d with %v by %d falls from %d to %d", funNames[fn], a, c, mode, last, v)
					}
					last = v
				}
			}
		}
	}
	// And beside each other among the longest words.
	long := confOf(impl.Fmt{Signed: true, W: 60, F: 58}, impl.Fmt{Signed: true, W: 60, F: 58}, 0, 0, false)
	m := &mixer{state: 55555}
	for range 40 {
		a := m.below(1<<58) - m.below(1<<58)
		for _, fn := range rising {
			v, how := impl.Eval(long, fn, a, 0)
			w, too := impl.Eval(long, fn, a+1, 0)
			if how != impl.StDomain && too != impl.StDomain && w < v {
				t.Fatalf("%s of %d is %d, of the next one %d", funNames[fn], a, v, w)
			}
		}
	}
}

// Odd functions are odd, even ones even, with the rounding turned round.
func TestOddFunctionsAreOdd(t *testing.T) {
	t.Parallel()
	m := &mixer{state: 77777}
	for _, in := range []impl.Fmt{{Signed: true, W: 8, F: 4}, {Signed: true, W: 60, F: 58}, {Signed: true, W: 30}} {
		for _, out := range []impl.Fmt{{Signed: true, W: 20, F: 12}, {Signed: true, W: 60, F: 50}, {Signed: true, W: 6}} {
			for range 25 {
				_, most := boundsOf(in)
				a, b := m.below(most), m.below(most)-most/2
				c := confOf(in, out, m.below(5), impl.PoError, m.below(2) == 0)
				back := rounding(c, impl.Turned(c.Mode))
				for _, fn := range []int{impl.FuMul, impl.FuDiv, impl.FuSin, impl.FuTan, impl.FuAtan, impl.FuSinh, impl.FuTanh, impl.FuAtanh} {
					v, how := impl.Eval(c, fn, a, b)
					w, too := impl.Eval(back, fn, -a, b)
					if how == impl.StOk && too == impl.StOk && w != -v {
						t.Fatalf("%s of %d is %d, of its negative %d (%v)", funNames[fn], a, v, w, c)
					}
				}
				if v, how := impl.Eval(c, impl.FuAtan2, a, b); a != 0 && how == impl.StOk {
					if w, too := impl.Eval(back, impl.FuAtan2, -a, b); too != how || w != -v {
						t.Fatalf("the angle of (%d, %d) is %d, of its mirror %d (%v)", b, a, v, w, c)
					}
				}
				for _, fn := range []int{impl.FuHypot, impl.FuCos, impl.FuCosh} {
					v, how := impl.Eval(c, fn, a, b)
					if w, too := impl.Eval(c, fn, -a, b); w != v || too != how {
						t.Fatalf("%s of %d is %d, of its negative %d (%v)", funNames[fn], a, v, w, c)
					}
				}
			}
		}
	}
}

// Promise 29: every function answers at any arguments; what was answered once is answered again.

func TestEvalAnswersAtAnything(t *testing.T) {
	t.Parallel()
	defer mustNotPanic(t)
	any := []int{math.MinInt, math.MinInt + 1, -mostArg, -1, 0, 1, 3, 60, 61, mostArg, math.MaxInt - 1, math.MaxInt}
	m := &mixer{state: 99999}
	pick := func() int {
		if m.below(3) == 0 {
			return any[m.below(len(any))]
		}
		return m.below(20) - 1
	}
	known := truths{}
	for range 20000 {
		c := confOf(impl.Fmt{Signed: m.below(2) == 0, W: pick(), F: pick()}, impl.Fmt{Signed: m.below(2) == 0, W: pick(), F: pick()}, pick()%7, pick()%5, m.below(2) == 0)
		fn, a, b := pick(), pick(), pick()
		known.check(t, c, fn, a, b)
		impl.ConfOk(c)
		first, second, how := impl.Both(c, fn, a, b)
		if down, up, too := impl.Both(c, fn, a, b); down != first || up != second || too != how {
			t.Fatalf("Both of %d, %d, %d with %v is another one the second time", fn, a, b, c)
		}
	}
	for _, fn := range append(any, 4, 6, 10, 14) {
		for _, a := range any {
			for _, b := range any {
				known.check(t, confOf(impl.Fmt{Signed: true, W: 60}, impl.Fmt{W: 60, F: 60}, 3, 0, true), fn, a, b)
			}
		}
	}
}

// In another order, and by many at once.
func TestEvalIsAnsweredAgain(t *testing.T) {
	type asked struct{ fn, a, mode int }
	var asks []asked
	want := map[asked][2]int{}
	ask := func(o asked) [2]int {
		c := confOf(impl.Fmt{Signed: true, W: 40, F: 30}, impl.Fmt{Signed: true, W: 60, F: 50}, o.mode, impl.PoSat, o.a%2 == 0)
		v, how := impl.Eval(c, o.fn, o.a, 77)
		return [2]int{v, how}
	}
	for fn := range 15 {
		for i, a := range []int{-1 << 30, -12345, 0, 1 << 28, 987654321} {
			o := asked{fn, a, i}
			asks = append(asks, o)
			want[o] = ask(o)
		}
	}
	again := func() {
		for _, o := range slices.Backward(asks) {
			if got := ask(o); got != want[o] {
				t.Errorf("%v is %v, and was %v", o, got, want[o])
			}
		}
	}
	again()
	var all sync.WaitGroup
	for range 6 {
		all.Go(again)
	}
	all.Wait()
}
