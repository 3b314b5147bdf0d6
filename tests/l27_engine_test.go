package tests

import (
	"math"
	"runtime"
	"slices"
	"strings"
	"sync"
	"testing"
	"time"

	"loop.example/g00481/impl"
)

// Promise 27: an answer depends on the last Conf that was taken and on the order, on nothing else.

const mostDone = 1000000

var (
	noKinds  = []int{math.MinInt, math.MinInt + 1, -7, -2, -1, 7, 8, 1 << 32, 1<<32 + 1, math.MaxInt - 1, math.MaxInt}
	noCounts = []int{math.MinInt, math.MinInt + 1, -mostDone, -2, -1, mostDone + 1, mostDone + 2, 1 << 32, math.MaxInt - 1, math.MaxInt}
)

func confOk(c impl.Conf) bool {
	return fmtOk(c.In) && fmtOk(c.Out) && slices.Contains(allModes, c.Mode) && slices.Contains(allPolicies, c.Policy)
}

func engineOk(e impl.Engine) bool {
	if e.Done < 0 || e.Done > mostDone {
		return false
	}
	return e.Set && confOk(e.Conf) || !e.Set && e.Conf == impl.Conf{}
}

// The document's list, one line behind the other.
func obeyed(e impl.Engine, o impl.Order) (impl.Engine, impl.Answer) {
	if !engineOk(e) || e.Done == mostDone || o.Kind < 0 || o.Kind > 6 {
		return e, impl.Answer{Code: impl.AnBad}
	}
	more := impl.Engine{Conf: e.Conf, Set: e.Set, Done: e.Done + 1}
	if o.Kind == impl.OpConf {
		if !confOk(o.Conf) {
			return e, impl.Answer{Code: impl.AnConf}
		}
		return impl.Engine{Conf: o.Conf, Set: true, Done: e.Done + 1}, impl.Answer{Code: impl.AnDone}
	}
	if !e.Set {
		return e, impl.Answer{Code: impl.AnNone}
	}
	a := reckoned(e.Conf, o)
	if !slices.Contains([]int{impl.StOk, impl.StSat, impl.StWrap}, a.Status) {
		return more, impl.Answer{Code: impl.AnStatus, Status: a.Status}
	}
	return more, a
}

func reckoned(c impl.Conf, o impl.Order) impl.Answer {
	switch o.Kind {
	case impl.OpEval:
		v, how := impl.Eval(c, o.Fn, o.A, o.B)
		return impl.Answer{V: v, Status: how}
	case impl.OpFast:
		v, how := impl.Fast(c, o.Fn, o.A, o.B)
		return impl.Answer{V: v, Status: how}
	case impl.OpBoth:
		v, w, how := impl.Both(c, o.Fn, o.A, o.B)
		return impl.Answer{V: v, W: w, Status: how}
	case impl.OpParse:
		v, how := impl.Parse(c.In, c.Mode, c.Policy, o.Text)
		return impl.Answer{V: v, Status: how}
	case impl.OpShow:
		if !rawOk(c.Out, o.A) {
			return impl.Answer{Status: impl.StBad}
		}
		return impl.Answer{Text: shown(c.Out, o.A)}
	}
	r, ok := impl.RomMake(o.A, o.B)
	if !ok {
		return impl.Answer{Status: impl.StBad}
	}
	return impl.Answer{Bytes: bytesOfRom(r)}
}

func sameAnswer(a impl.Answer, b impl.Answer) bool {
	return a.Code == b.Code && a.V == b.V && a.W == b.W && a.Status == b.Status && a.Text == b.Text && slices.Equal(a.Bytes, b.Bytes)
}

func checkObey(t *testing.T, e impl.Engine, o impl.Order) (impl.Engine, impl.Answer) {
	t.Helper()
	after, answer := obeyed(e, o)
	next, a := impl.Obey(e, o)
	if next != after || !sameAnswer(a, answer) {
		t.Fatalf("Obey(%v, %v) = %v, %v, want %v, %v", e, o, next, a, after, answer)
	}
	return next, a
}

func someConf() impl.Conf {
	return confOf(impl.Fmt{Signed: true, W: 16, F: 8}, impl.Fmt{Signed: true, W: 16, F: 12}, impl.MdEven, impl.PoSat, false)
}

func someConfs() []impl.Conf {
	q, bare := impl.Fmt{Signed: true, W: 8, F: 4}, impl.Fmt{W: 6, F: 6}
	return []impl.Conf{someConf(), confOf(q, q, impl.MdDown, impl.PoError, true), confOf(q, bare, impl.MdUp, impl.PoWrap, true), confOf(bare, impl.Fmt{Signed: true, W: 60, F: 58}, impl.MdAway, impl.PoSat, false), confOf(impl.Fmt{Signed: true, W: 60}, impl.Fmt{W: 60, F: 60}, impl.MdZero, impl.PoWrap, true)}
}

func badConfs() []impl.Conf {
	good := someConf()
	out := []impl.Conf{{}, {Turns: true}}
	for _, f := range noFormats() {
		out = append(out, confOf(f, good.Out, 0, 0, false), confOf(good.In, f, 0, 0, true))
	}
	for _, mode := range noModes {
		out = append(out, rounding(good, mode))
	}
	for _, policy := range noPolicies {
		out = append(out, confOf(good.In, good.Out, 0, policy, false))
	}
	return out
}

// Orders of each kind, wrong ones among them.
func someOrders() []impl.Order {
	out := []impl.Order{{}, {Kind: impl.OpParse}, {Kind: impl.OpRom}, {Kind: impl.OpShow}}
	for _, c := range append(someConfs(), badConfs()[:6]...) {
		out = append(out, impl.Order{Kind: impl.OpConf, Conf: c})
	}
	for _, kind := range []int{impl.OpEval, impl.OpFast, impl.OpBoth} {
		for _, fn := range slices.Concat([]int{-1, 15, math.MinInt, math.MaxInt}, []int{impl.FuMul, impl.FuDiv, impl.FuLog, impl.FuSin, impl.FuCos, impl.FuAtan, impl.FuAtan2, impl.FuSinh}) {
			for _, a := range [][2]int{{0, 0}, {5, 0}, {-3, 7}, {127, 127}, {32768, 1}, {1, math.MinInt}, {math.MaxInt, 1}} {
				out = append(out, impl.Order{Kind: kind, Fn: fn, A: a[0], B: a[1]})
			}
		}
	}
	for _, text := range []string{"0", "1.5", "-0.25", "7.96875", "99999999", "-99999999", "", "x", "1.", ".5", "00", " 1", "1 ", "\xff\x00", strings.Repeat("1", 21), strings.Repeat("9", 100000)} {
		out = append(out, impl.Order{Kind: impl.OpParse, Text: text})
	}
	for _, a := range []int{0, 1, -1, 63, 64, 127, 128, -128, -129, 32767, 32768, math.MinInt, math.MaxInt} {
		out = append(out, impl.Order{Kind: impl.OpShow, A: a})
	}
	for _, size := range [][2]int{{1, 0}, {8, 2}, {100, 64}, {0, 0}, {101, 0}, {1, -1}, {1, 65}, {math.MinInt, math.MaxInt}, {math.MaxInt, math.MinInt}} {
		out = append(out, impl.Order{Kind: impl.OpRom, A: size[0], B: size[1]})
	}
	for _, kind := range noKinds {
		out = append(out, impl.Order{Kind: kind}, impl.Order{Kind: kind, Conf: someConf(), Fn: 6, A: 1, B: 1, Text: "1"})
	}
	return out
}

func TestKindsAndCodesAreNumbered(t *testing.T) {
	if !slices.Equal([]int{impl.OpConf, impl.OpEval, impl.OpFast, impl.OpBoth, impl.OpParse, impl.OpShow, impl.OpRom}, []int{0, 1, 2, 3, 4, 5, 6}) {
		t.Error("kinds")
	}
	if !slices.Equal([]int{impl.AnDone, impl.AnBad, impl.AnConf, impl.AnNone, impl.AnStatus}, []int{0, 1, 2, 3, 4}) {
		t.Error("codes")
	}
}

func TestEngineOkTellsEngines(t *testing.T) {
	for _, done := range slices.Concat(noCounts, []int{0, 1, 999999, mostDone}) {
		counted := !slices.Contains(noCounts, done)
		for _, c := range someConfs() {
			if impl.EngineOk(impl.Engine{Conf: c, Set: true, Done: done}) != counted {
				t.Errorf("EngineOk with %d done is %v", done, !counted)
			}
			if impl.EngineOk(impl.Engine{Conf: c, Done: done}) {
				t.Errorf("EngineOk with a Conf that was not taken: %v, %d", c, done)
			}
		}
		for _, c := range badConfs() {
			if impl.EngineOk(impl.Engine{Conf: c, Set: true, Done: done}) {
				t.Errorf("EngineOk with %v and %d done", c, done)
			}
		}
		for _, c := range badConfs()[1:] {
			if impl.EngineOk(impl.Engine{Conf: c, Done: done}) {
				t.Errorf("EngineOk with %v that was not taken, and %d done", c, done)
			}
		}
		if impl.EngineOk(impl.Engine{Done: done}) != counted {
			t.Errorf("EngineOk without a Conf, with %d done, is %v", done, !counted)
		}
	}
	// Each number of a Conf counts, where it should be zero.
	for i, c := range []impl.Conf{{Mode: 1}, {Policy: 1}, {Turns: true}, {In: impl.Fmt{W: 1}}, {In: impl.Fmt{F: 1}}, {In: impl.Fmt{Signed: true}}, {Out: impl.Fmt{W: 1}}, {Out: impl.Fmt{F: 1}}, {Out: impl.Fmt{Signed: true}}} {
		if impl.EngineOk(impl.Engine{Conf: c}) {
			t.Errorf("EngineOk of the %dth, which is not zero", i)
		}
	}
}

func TestObeyNamedOnes(t *testing.T) {
	c := someConf()
	wrap, over := c, c
	wrap.Policy, over.Policy = impl.PoWrap, impl.PoError
	cases := []struct {
		name string
		c    impl.Conf
		o    impl.Order
		want impl.Answer
	}{
		{"e", c, impl.Order{Kind: impl.OpEval, Fn: impl.FuExp, A: 256, B: 99999}, impl.Answer{V: 11134}},
		{"the sine of 1, fast", c, impl.Order{Kind: impl.OpFast, Fn: impl.FuSin, A: 256}, impl.Answer{V: 3447}},
		{"the sine of 1, both", c, impl.Order{Kind: impl.OpBoth, Fn: impl.FuSin, A: 256}, impl.Answer{V: 3446, W: 3447}},
		{"1.5", c, impl.Order{Kind: impl.OpParse, Text: "1.5"}, impl.Answer{V: 384}},
		{"2048", c, impl.Order{Kind: impl.OpShow, A: 2048}, impl.Answer{Text: "0.5"}},
		{"0 shown", c, impl.Order{Kind: impl.OpShow}, impl.Answer{Text: "0"}},
		{"a table", c, impl.Order{Kind: impl.OpRom, A: 1, B: 0}, impl.Answer{Bytes: summed([]byte("GNM\x01\x00\x01\x02"))}},
		// Each status: what does not fit is done, where a number is told.
		{"saturated", c, impl.Order{Kind: impl.OpEval, Fn: impl.FuMul, A: 1024, B: 1024}, impl.Answer{V: 32767, Status: impl.StSat}},
		{"wrapped", wrap, impl.Order{Kind: impl.OpEval, Fn: impl.FuMul, A: 1024, B: 1024}, impl.Answer{V: 0, Status: impl.StWrap}},
		{"wrapped to another", wrap, impl.Order{Kind: impl.OpEval, Fn: impl.FuMul, A: 1024, B: 512}, impl.Answer{V: -32768, Status: impl.StWrap}},
		{"over", over, impl.Order{Kind: impl.OpEval, Fn: impl.FuMul, A: 1024, B: 1024}, impl.Answer{Code: impl.AnStatus, Status: impl.StOver}},
		{"saturated both ways", c, impl.Order{Kind: impl.OpBoth, Fn: impl.FuMul, A: 1024, B: 1024}, impl.Answer{Status: impl.StSat}},
		{"wrapped both ways", wrap, impl.Order{Kind: impl.OpBoth, Fn: impl.FuMul, A: 1024, B: 512}, impl.Answer{Status: impl.StWrap}},
		{"over both ways", over, impl.Order{Kind: impl.OpBoth, Fn: impl.FuMul, A: 1024, B: 512}, impl.Answer{Code: impl.AnStatus, Status: impl.StOver}},
		{"pi, 13 ahead of the point, saturated", confOf(c.In, impl.Fmt{Signed: true, W: 14, F: 13}, 0, impl.PoSat, false), impl.Order{Kind: impl.OpFast, Fn: impl.FuAtan2, A: 0, B: -1}, impl.Answer{V: 8191, Status: impl.StSat}},
		{"a text too great, saturated", c, impl.Order{Kind: impl.OpParse, Text: "-1000"}, impl.Answer{V: -32768, Status: impl.StSat}},
		{"a text too great, wrapped", wrap, impl.Order{Kind: impl.OpParse, Text: "257"}, impl.Answer{V: 256, Status: impl.StWrap}},
		{"a text too great", over, impl.Order{Kind: impl.OpParse, Text: "128"}, impl.Answer{Code: impl.AnStatus, Status: impl.StOver}},
		{"the domain", c, impl.Order{Kind: impl.OpEval, Fn: impl.FuLog}, impl.Answer{Code: impl.AnStatus, Status: impl.StDomain}},
		{"the domain, fast", c, impl.Order{Kind: impl.OpFast, Fn: impl.FuAtan2}, impl.Answer{Code: impl.AnStatus, Status: impl.StDomain}},
		{"the domain, both", c, impl.Order{Kind: impl.OpBoth, Fn: impl.FuDiv, A: 1}, impl.Answer{Code: impl.AnStatus, Status: impl.StDomain}},
		{"no word", c, impl.Order{Kind: impl.OpEval, Fn: impl.FuExp, A: 32768}, impl.Answer{Code: impl.AnStatus, Status: impl.StBad}},
		{"no fast way", c, impl.Order{Kind: impl.OpFast, Fn: impl.FuExp, A: 1}, impl.Answer{Code: impl.AnStatus, Status: impl.StBad}},
		{"no function", c, impl.Order{Kind: impl.OpBoth, Fn: 15, A: 1}, impl.Answer{Code: impl.AnStatus, Status: impl.StBad}},
		{"no decimal", c, impl.Order{Kind: impl.OpParse, Text: "1,5"}, impl.Answer{Code: impl.AnStatus, Status: impl.StBad}},
		{"no text", c, impl.Order{Kind: impl.OpParse}, impl.Answer{Code: impl.AnStatus, Status: impl.StBad}},
		{"no word of Out", c, impl.Order{Kind: impl.OpShow, A: -32769}, impl.Answer{Code: impl.AnStatus, Status: impl.StBad}},
		{"no table", c, impl.Order{Kind: impl.OpRom, A: 101}, impl.Answer{Code: impl.AnStatus, Status: impl.StBad}},
	}
	for _, row := range cases {
		e := impl.Engine{Conf: row.c, Set: true, Done: 41}
		next, a := checkObey(t, e, row.o)
		if !sameAnswer(a, row.want) || next != (impl.Engine{Conf: row.c, Set: true, Done: 42}) {
			t.Errorf("%s: %v, %v, want %v", row.name, next, a, row.want)
		}
	}
}

// What is done and what tells a status is counted; what is refused is not, and leaves all as it was.
func TestObeyCounts(t *testing.T) {
	c := someConf()
	for _, o := range someOrders() {
		for _, done := range []int{0, 1, 999999, mostDone} {
			for _, e := range []impl.Engine{{Done: done}, {Conf: c, Set: true, Done: done}} {
				next, a := checkObey(t, e, o)
				counted := a.Code == impl.AnDone || a.Code == impl.AnStatus
				if counted && next.Done != done+1 || !counted && next != e {
					t.Errorf("%v behind %d, with %v: %v", o, done, a.Code, next)
				}
				if done == mostDone && a.Code != impl.AnBad {
					t.Errorf("%v is obeyed behind a million", o)
				}
				if o.Kind != impl.OpConf && next.Conf != e.Conf {
					t.Errorf("%v turned the Conf", o)
				}
			}
		}
	}
}

// What is no engine is left as it was, whatever is asked of it.
func TestObeyRefusesWhatIsNoEngine(t *testing.T) {
	c := someConf()
	bads := []impl.Engine{{Conf: c}, {Conf: c, Done: 5}, {Set: true}, {Set: true, Done: mostDone}, {Conf: impl.Conf{Turns: true}}}
	for _, done := range noCounts {
		bads = append(bads, impl.Engine{Done: done}, impl.Engine{Conf: c, Set: true, Done: done}, impl.Engine{Conf: c, Done: done})
	}
	for _, bad := range badConfs() {
		bads = append(bads, impl.Engine{Conf: bad, Set: true})
	}
	for _, e := range bads {
		for _, o := range []impl.Order{{Conf: c}, {}, {Kind: impl.OpEval, Fn: impl.FuExp}, {Kind: impl.OpShow}, {Kind: impl.OpRom, A: 1}, {Kind: 7}, {Kind: math.MinInt}} {
			next, a := checkObey(t, e, o)
			if next != e || !sameAnswer(a, impl.Answer{Code: impl.AnBad}) {
				t.Errorf("Obey(%v, %v) = %v, %v", e, o, next, a)
			}
		}
		next, list := impl.ObeyAll(e, []impl.Order{{Conf: c}, {Kind: impl.OpShow}})
		if next != e || len(list) != 2 || list[0].Code != impl.AnBad || list[1].Code != impl.AnBad {
			t.Errorf("ObeyAll(%v) = %v, %v", e, next, list)
		}
		if next, list := impl.ObeyAll(e, nil); next != e || len(list) != 0 {
			t.Errorf("no orders to %v: %v, %v", e, next, list)
		}
	}
}

// Which reason comes first: the engine or the kind, then the Conf that is not there.
func TestObeyTellsTheFirstReason(t *testing.T) {
	codes := []struct {
		name string
		e    impl.Engine
		o    impl.Order
		want int
	}{
		{"no kind, and no Conf was taken", impl.Engine{}, impl.Order{Kind: 7}, impl.AnBad},
		{"no kind below, and no Conf was taken", impl.Engine{}, impl.Order{Kind: -1}, impl.AnBad},
		{"a million were done, and the Conf is none", impl.Engine{Done: mostDone}, impl.Order{}, impl.AnBad},
		{"a million were done, and none was taken", impl.Engine{Done: mostDone}, impl.Order{Kind: impl.OpShow}, impl.AnBad},
		{"the Conf is none, and none was taken", impl.Engine{}, impl.Order{}, impl.AnConf},
		{"the status would be bad, and none was taken", impl.Engine{}, impl.Order{Kind: impl.OpEval, Fn: -1}, impl.AnNone},
	}
	for _, c := range codes {
		next, a := checkObey(t, c.e, c.o)
		if !sameAnswer(a, impl.Answer{Code: c.want}) || next != c.e {
			t.Errorf("%s: %v, %v", c.name, next, a)
		}
	}
	// The Conf of an order is looked at by OpConf alone.
	e := impl.Engine{Conf: someConf(), Set: true}
	for kind := impl.OpEval; kind <= impl.OpRom; kind++ {
		for _, c := range append(someConfs(), badConfs()...) {
			o := impl.Order{Kind: kind, Fn: impl.FuSin, A: 5, B: 3, Text: "1.25"}
			_, want := impl.Obey(e, o)
			o.Conf = c
			if _, a := checkObey(t, e, o); !sameAnswer(a, want) || a.Code != impl.AnDone {
				t.Errorf("kind %d beside %v: %v, want %v", kind, c, a, want)
			}
		}
	}
}

func TestConfIsTakenOrNot(t *testing.T) {
	first, second := someConfs()[0], someConfs()[1]
	e := impl.Engine{}
	for _, bad := range badConfs() {
		next, a := checkObey(t, e, impl.Order{Conf: bad})
		if next != e || !sameAnswer(a, impl.Answer{Code: impl.AnConf}) {
			t.Errorf("%v is taken: %v, %v", bad, next, a)
		}
	}
	e, a := impl.Obey(e, impl.Order{Conf: first, Fn: 5, A: 7, B: 8, Text: "x"})
	if e != (impl.Engine{Conf: first, Set: true, Done: 1}) || !sameAnswer(a, impl.Answer{}) {
		t.Fatal("the first Conf:", e, a)
	}
	// One that is not taken leaves the one that was.
	for _, bad := range badConfs() {
		next, a := checkObey(t, e, impl.Order{Conf: bad})
		if next != e || !sameAnswer(a, impl.Answer{Code: impl.AnConf}) {
			t.Errorf("%v is taken behind another one: %v, %v", bad, next, a)
		}
	}
	e, a = impl.Obey(e, impl.Order{Conf: second})
	if e != (impl.Engine{Conf: second, Set: true, Done: 2}) || !sameAnswer(a, impl.Answer{}) {
		t.Fatal("the second Conf:", e, a)
	}
}

// A long row is obeyed as its orders are, one by one.
func TestObeyAllIsOneBehindTheOther(t *testing.T) {
	t.Parallel()
	orders := someOrders()
	m := &mixer{state: 27272727}
	for _, done := range []int{0, 12345, mostDone - 50, mostDone - 1, mostDone} {
		var list []impl.Order
		for range 300 {
			list = append(list, orders[m.below(len(orders))])
		}
		begin := impl.Engine{Done: done}
		end, answers := impl.ObeyAll(begin, list)
		if len(answers) != len(list) {
			t.Fatalf("%d answers to %d orders", len(answers), len(list))
		}
		at := begin
		for i, o := range list {
			var a impl.Answer
			at, a = checkObey(t, at, o)
			if !sameAnswer(a, answers[i]) || !impl.AnswerSame(a, answers[i]) {
				t.Fatalf("order %d, %v: %v in a row, %v alone", i, o, answers[i], a)
			}
			// The row up to here ends as one that goes on.
			if i%97 == 0 {
				if part, first := impl.ObeyAll(begin, list[:i+1]); part != at || !sameAnswer(first[i], a) {
					t.Fatalf("the first %d orders end with %v, %v", i+1, part, first[i])
				}
			}
		}
		if at != end {
			t.Fatalf("the row ends with %v, one by one with %v", end, at)
		}
		if end.Done > mostDone {
			t.Fatal("more than a million were done")
		}
	}
	if e, list := impl.ObeyAll(impl.Engine{}, nil); e != (impl.Engine{}) || len(list) != 0 {
		t.Error("no orders:", e, list)
	}
}

// The last order that is obeyed is the millionth; behind it all is refused.
func TestObeyAllEndsAtAMillion(t *testing.T) {
	e := impl.Engine{Conf: someConf(), Set: true, Done: mostDone - 2}
	show := impl.Order{Kind: impl.OpShow, A: 2048}
	end, list := impl.ObeyAll(e, []impl.Order{show, {Kind: 9}, {}, show, show, {Conf: someConfs()[1]}, {}})
	want := []int{impl.AnDone, impl.AnBad, impl.AnConf, impl.AnDone, impl.AnBad, impl.AnBad, impl.AnBad}
	for i, code := range want {
		if list[i].Code != code {
			t.Errorf("order %d: %v, want %d", i, list[i], code)
		}
	}
	if end != (impl.Engine{Conf: someConf(), Set: true, Done: mostDone}) {
		t.Error("the end:", end)
	}
}

// Whatever was done ahead, the same order behind the same Conf is answered alike.
func TestAnswersHangOnTheLastConfAlone(t *testing.T) {
	t.Parallel()
	orders := someOrders()
	m := &mixer{state: 72727272}
	for _, c := range someConfs() {
		var told []impl.Answer
		for _, o := range orders {
			_, a := impl.Obey(impl.Engine{Conf: c, Set: true}, o)
			told = append(told, a)
		}
		for range 12 {
			var history []impl.Order
			for range m.below(12) {
				history = append(history, orders[m.below(len(orders))])
			}
			busy, _ := impl.ObeyAll(impl.Engine{}, append(history, impl.Order{Conf: c}))
			for i, o := range orders {
				if _, a := impl.Obey(busy, o); !impl.AnswerSame(a, told[i]) {
					t.Fatalf("%v behind %v: %v, and at first %v", o, history, a, told[i])
				}
			}
		}
	}
}

func TestAnswerSameTellsAnswersApart(t *testing.T) {
	whole := impl.Answer{Code: 4, V: 1, W: 2, Status: 3, Text: "x", Bytes: []byte{1, 2}}
	others := []impl.Answer{
		{Code: 3, V: 1, W: 2, Status: 3, Text: "x", Bytes: []byte{1, 2}}, {Code: 4, V: -1, W: 2, Status: 3, Text: "x", Bytes: []byte{1, 2}}, {Code: 4, V: 1, W: 1, Status: 3, Text: "x", Bytes: []byte{1, 2}},
		{Code: 4, V: 1, W: 2, Status: 2, Text: "x", Bytes: []byte{1, 2}}, {Code: 4, V: 1, W: 2, Status: 3, Text: "X", Bytes: []byte{1, 2}}, {Code: 4, V: 1, W: 2, Status: 3, Text: "x", Bytes: []byte{1, 3}},
		{Code: 4, V: 1, W: 2, Status: 3, Text: "x", Bytes: []byte{1}}, {Code: 4, V: 1, W: 2, Status: 3, Text: "x", Bytes: []byte{1, 2, 0}}, {Code: 4, V: 1, W: 2, Status: 3, Text: "", Bytes: []byte{1, 2}}, {Code: 4, V: 1, W: 2, Status: 3, Text: "x"}, {Code: 4, V: 2, W: 1, Status: 3, Text: "x", Bytes: []byte{1, 2}}, {},
	}
	for i, other := range others {
		if impl.AnswerSame(whole, other) || impl.AnswerSame(other, whole) || !impl.AnswerSame(other, other) {
			t.Errorf("the %dth: %v", i, other)
		}
	}
	again := impl.Answer{Code: 4, V: 1, W: 2, Status: 3, Text: "x", Bytes: []byte{1, 2}}
	if !impl.AnswerSame(whole, again) || !impl.AnswerSame(impl.Answer{}, impl.Answer{Bytes: []byte{}}) || !impl.AnswerSame(impl.Answer{Bytes: []byte{}}, impl.Answer{}) {
		t.Error("the same is told apart")
	}
}

// Promise 29: every function answers at any arguments, writes into none, and leaves nothing running.

func TestEngineAnswersAtAnything(t *testing.T) {
	t.Parallel()
	defer mustNotPanic(t)
	any := []int{math.MinInt, math.MinInt + 1, -1, 0, 1, 2, 5, 6, 7, 60, 61, mostDone, math.MaxInt - 1, math.MaxInt}
	m := &mixer{state: 37373737}
	pick := func() int { return any[m.below(len(any))] }
	texts := []string{"", "1", "-2.5", "x", "\xff\x00", "1e5"}
	conf := func() impl.Conf {
		if m.below(2) == 0 {
			return someConfs()[m.below(5)]
		}
		return confOf(impl.Fmt{Signed: m.below(2) == 0, W: pick(), F: pick()}, impl.Fmt{Signed: m.below(2) == 0, W: pick(), F: pick()}, pick(), pick(), m.below(2) == 0)
	}
	for range 20000 {
		e := impl.Engine{Conf: conf(), Set: m.below(3) > 0, Done: pick()}
		o := impl.Order{Kind: pick(), Conf: conf(), Fn: pick(), A: pick(), B: pick(), Text: texts[m.below(len(texts))]}
		if impl.EngineOk(e) != engineOk(e) {
			t.Fatalf("EngineOk(%v) is %v", e, !engineOk(e))
		}
		checkObey(t, e, o)
	}
}

func TestEngineWritesIntoNothingAndSharesNothing(t *testing.T) {
	rom := impl.Order{Kind: impl.OpRom, A: 8, B: 2}
	all := []impl.Order{{Conf: someConf()}, rom, rom, {Kind: impl.OpShow, A: 1}, {Kind: -77, Text: "room"}, {Kind: -78}}
	list, before := all[:4], slices.Clone(all)
	_, first := impl.ObeyAll(impl.Engine{}, list)
	_, second := impl.ObeyAll(impl.Engine{}, list)
	if !slices.Equal(all, before) {
		t.Error("the orders were written over, or what stands behind them")
	}
	want := slices.Clone(second[1].Bytes)
	clear(first[1].Bytes[:cap(first[1].Bytes)])
	clear(first[2].Bytes[:cap(first[2].Bytes)])
	if !slices.Equal(second[1].Bytes, want) || !slices.Equal(second[2].Bytes, want) {
		t.Error("two answers share their bytes")
	}
	clear(second[1].Bytes[:cap(second[1].Bytes)])
	if !slices.Equal(second[2].Bytes, want) {
		t.Error("two bytes of one answer share memory")
	}
	clear(first[:cap(first)])
	if second[3].Text != "0.000244140625" {
		t.Error("two lists of answers share memory")
	}
}

// Nothing is left running or waiting behind an answer.
func TestEngineLeavesNothingRunning(t *testing.T) {
	orders := someOrders()
	before := runtime.NumGoroutine()
	for range 20 {
		impl.ObeyAll(impl.Engine{}, orders)
		impl.ObeyAll(impl.Engine{Done: -1}, orders)
		for _, o := range orders {
			impl.Obey(impl.Engine{Conf: someConf(), Set: true}, o)
		}
	}
	// One that has just ended may still be counted for a moment.
	for range 200 {
		if runtime.NumGoroutine() <= before {
			return
		}
		time.Sleep(5 * time.Millisecond)
	}
	t.Errorf("%d were running, and now %d are", before, runtime.NumGoroutine())
}

// In another order, and by many at once.
func TestEngineIsAnsweredAgain(t *testing.T) {
	orders := someOrders()
	ask := func(i int) impl.Answer {
		_, a := impl.Obey(impl.Engine{Conf: someConfs()[i%5], Set: true, Done: i}, orders[i])
		return a
	}
	var told []impl.Answer
	for i := range orders {
		told = append(told, ask(i))
	}
	var all sync.WaitGroup
	for range 4 {
		all.Go(func() {
			for i, want := range slices.Backward(told) {
				if got := ask(i); !sameAnswer(got, want) {
					t.Errorf("%v: %v, and was %v", orders[i], got, want)
				}
			}
		})
	}
	all.Wait()
}
