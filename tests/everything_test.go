package tests

import (
	"fmt"
	"go/ast"
	"go/parser"
	"go/token"
	"math"
	"path/filepath"
	"reflect"
	"slices"
	"strings"
	"sync"
	"testing"
	"unsafe"

	"loop.example/g00481/impl"
)

// Promise 29, of all chapters at once: every function answers at any arguments, and writes into none; what was answered once is answered again, in whatever order it is asked.

func allFaces() map[string]any {
	return map[string]any{
		"Digits": impl.Digits, "Number": impl.Number, "PutNum": impl.PutNum, "GetNum": impl.GetNum, "Parts": impl.Parts,
		"NatOk": impl.NatOk, "NatOf": impl.NatOf, "NatInt": impl.NatInt, "NatCmp": impl.NatCmp, "NatAdd": impl.NatAdd, "NatSub": impl.NatSub, "NatMul": impl.NatMul, "NatBits": impl.NatBits, "NatShl": impl.NatShl, "NatShr": impl.NatShr,
		"NatDiv": impl.NatDiv, "NatRoot": impl.NatRoot, "NatPow": impl.NatPow, "NatText": impl.NatText, "NatFrom": impl.NatFrom,
		"WholeOk": impl.WholeOk, "WholeOf": impl.WholeOf, "WholeInt": impl.WholeInt, "WholeCmp": impl.WholeCmp, "WholeNeg": impl.WholeNeg, "WholeAdd": impl.WholeAdd, "WholeSub": impl.WholeSub, "WholeMul": impl.WholeMul, "WholeShift": impl.WholeShift, "WholeText": impl.WholeText,
		"RoundFrac": impl.RoundFrac, "RoundAt": impl.RoundAt, "RoundRoot": impl.RoundRoot, "Turned": impl.Turned,
		"FmtOk": impl.FmtOk, "Least": impl.Least, "Most": impl.Most, "RawOk": impl.RawOk, "FmtText": impl.FmtText, "FmtOf": impl.FmtOf,
		"WordOf": impl.WordOf, "RawOf": impl.RawOf, "Fit": impl.Fit, "BitsText": impl.BitsText,
		"Convert": impl.Convert, "Holds": impl.Holds, "Common": impl.Common, "Show": impl.Show, "Parse": impl.Parse, "Decimal": impl.Decimal,
		"IvOk": impl.IvOk, "IvOf": impl.IvOf, "IvAdd": impl.IvAdd, "IvSub": impl.IvSub, "IvNeg": impl.IvNeg, "IvMeet": impl.IvMeet, "IvIn": impl.IvIn, "IvWide": impl.IvWide, "IvMove": impl.IvMove, "IvWidth": impl.IvWidth,
		"IvMul": impl.IvMul, "IvDiv": impl.IvDiv, "IvShare": impl.IvShare, "IvRoot": impl.IvRoot,
		"AtanInv": impl.AtanInv, "AtanhInv": impl.AtanhInv, "AtanPow": impl.AtanPow, "AtanhPow": impl.AtanhPow,
		"Pi": impl.Pi, "HalfPi": impl.HalfPi, "Ln2": impl.Ln2, "AngleOf": impl.AngleOf, "GainSquare": impl.GainSquare, "Gain": impl.Gain,
		"ExpSmall": impl.ExpSmall, "SinSmall": impl.SinSmall, "CosSmall": impl.CosSmall, "AtanSmall": impl.AtanSmall, "AtanhSmall": impl.AtanhSmall,
		"RawIv": impl.RawIv, "ExpIv": impl.ExpIv, "LogIv": impl.LogIv, "Quarter": impl.Quarter, "SinCosIv": impl.SinCosIv, "TanIv": impl.TanIv, "AngleIv": impl.AngleIv, "AtanIv": impl.AtanIv,
		"SinhIv": impl.SinhIv, "CoshIv": impl.CoshIv, "TanhIv": impl.TanhIv, "AtanhIv": impl.AtanhIv, "Decide": impl.Decide, "Near": impl.Near,
		"FunText": impl.FunText, "FunOf": impl.FunOf, "Takes": impl.Takes, "InDomain": impl.InDomain, "Exact": impl.Exact, "Enclose": impl.Enclose, "Rungs": impl.Rungs, "Tight": impl.Tight,
		"ConfOk": impl.ConfOk, "Eval": impl.Eval, "Both": impl.Both, "SpinOk": impl.SpinOk, "SpinStep": impl.SpinStep, "SpinRun": impl.SpinRun, "NormSquare": impl.NormSquare, "Cross": impl.Cross,
		"KernOk": impl.KernOk, "Rotate": impl.Rotate, "Vector": impl.Vector, "StepsFor": impl.StepsFor, "Inverse": impl.Inverse, "FastWave": impl.FastWave, "FastAngle": impl.FastAngle, "Fast": impl.Fast,
		"RomMake": impl.RomMake, "RomOk": impl.RomOk, "RomSame": impl.RomSame, "RomBytes": impl.RomBytes, "RomOf": impl.RomOf, "Adler": impl.Adler,
		"EngineOk": impl.EngineOk, "Obey": impl.Obey, "ObeyAll": impl.ObeyAll, "AnswerSame": impl.AnswerSame,
		"ModeOf": impl.ModeOf, "PolicyOf": impl.PolicyOf, "StatusText": impl.StatusText, "DeskLine": impl.DeskLine, "Session": impl.Session,
	}
}

// None is left out.
func TestAllFacesAreKnown(t *testing.T) {
	faces := allFaces()
	files, _ := filepath.Glob("../impl/*.go")
	found := 0
	for _, path := range files {
		file, err := parser.ParseFile(token.NewFileSet(), path, nil, parser.SkipObjectResolution)
		if err != nil {
			t.Fatal(err)
		}
		for _, d := range file.Decls {
			if f, ok := d.(*ast.FuncDecl); ok && f.Recv == nil && f.Name.IsExported() {
				found++
				if faces[f.Name.Name] == nil {
					t.Errorf("%s is not asked", f.Name.Name)
				}
			}
		}
	}
	if found != len(faces) {
		t.Errorf("%d are there, %d are asked", found, len(faces))
	}
}

// Arguments of any kind; some are as a chapter wants them, and some are not.
type anything struct {
	mixer
	wholes []impl.Whole
	lists  [][]int
	roms   []impl.Rom
	texts  []string
}

func newAnything(seed uint64) *anything {
	out := &anything{mixer: mixer{state: seed}}
	out.wholes = slices.Concat(goodWholes(), goodWholes(), badWholes())
	for n := range 40 {
		out.wholes = append(out.wholes, impl.WholeOf(n*n*n*n-9999))
	}
	out.lists = slices.Concat(goodLists(), goodLists(), badLists(), [][]int{{1}, {1, -1}, {-1, -1, 1, 1}, {1, 1, 1, 2}})
	out.roms = slices.Concat(madeRoms(), oddRoms()[:10], badRoms())
	// Very long ones are asked chapter by chapter; to look at all of them each time takes long.
	out.wholes = slices.DeleteFunc(out.wholes, func(a impl.Whole) bool { return len(a.Mag) > 200 })
	out.lists = slices.DeleteFunc(out.lists, func(a []int) bool { return len(a) > 200 })
	out.roms = slices.DeleteFunc(out.roms, func(r impl.Rom) bool {
		return len(r.Angles) > 200 || slices.ContainsFunc(romLists(r), func(a []int) bool { return len(a) > 200 })
	})
	out.texts = slices.Concat(decimals(), noDecimals(), deskWords, funNames, []string{"sin 0.5", "conf\nmode up\nconf", "atan2 1 -1", "# so\nbits 1", "12345678901234567890", "\xff\x00\x80", "é", "\n"})
	return out
}

func (m *anything) number() int {
	switch m.below(4) {
	case 0:
		edges := []int{math.MinInt, math.MinInt + 1, -mostArg, -1, 0, 1, 2, 24, 60, 61, 64, 65, 100, 101, 118, 119, 120, 121, 200, 201, 300, 301, 464, 465, 480, 481, 600, 601, 1000, 1001, 1152, 1153, mostDone, mostArg, math.MaxInt - 1, math.MaxInt}
		return edges[m.below(len(edges))]
	case 1:
		return m.below(1<<(1+m.below(62))) - m.below(1<<(1+m.below(62)))
	}
	return m.below(64)
}

func (m *anything) conf() impl.Conf {
	if m.below(3) > 0 {
		return someConfs()[m.below(5)]
	}
	return confOf(m.format(), m.format(), m.below(7)-1, m.below(5)-1, m.below(2) == 0)
}

func (m *anything) format() impl.Fmt {
	if m.below(3) == 0 {
		return impl.Fmt{Signed: m.below(2) == 0, W: m.number(), F: m.number()}
	}
	w := 2 + m.below(59)
	return impl.Fmt{Signed: m.below(2) == 0, W: w, F: m.below(w + 1)}
}

func (m *anything) whole() impl.Whole { return m.wholes[m.below(len(m.wholes))] }

func (m *anything) bytes() []byte {
	if m.below(2) == 0 {
		b := impl.RomBytes(m.roms[m.below(len(m.roms))])
		return b[:m.below(len(b)+1)]
	}
	out := make([]byte, m.below(20))
	for i := range out {
		out[i] = byte(m.next())
	}
	return out
}

func (m *anything) order() impl.Order {
	return impl.Order{Kind: m.below(9) - 1, Conf: m.conf(), Fn: m.below(17) - 1, A: m.number(), B: m.number(), Text: m.texts[m.below(len(m.texts))]}
}

func (m *anything) argument(t reflect.Type) any {
	switch reflect.New(t).Interface().(type) {
	case *int:
		return m.number()
	case *bool:
		return m.below(2) == 0
	case *byte:
		return byte(m.next())
	case *string:
		return m.texts[m.below(len(m.texts))]
	case *[]byte:
		return m.bytes()
	case *[]int:
		return m.lists[m.below(len(m.lists))]
	case *impl.Whole:
		return m.whole()
	case *impl.Iv:
		return impl.Iv{Lo: m.whole(), Hi: m.whole()}
	case *impl.Fmt:
		return m.format()
	case *impl.Conf:
		return m.conf()
	case *impl.Spin:
		return impl.Spin{X: m.whole(), Y: m.whole(), N: m.number()}
	case *impl.Kern:
		return impl.Kern{X: m.whole(), Y: m.whole(), Z: m.whole()}
	case *impl.Rom:
		return m.roms[m.below(len(m.roms))]
	case *impl.Engine:
		return impl.Engine{Conf: m.conf(), Set: m.below(4) > 0, Done: m.number()}
	case *impl.Order:
		return m.order()
	case *[]impl.Order:
		return []impl.Order{{Conf: m.conf()}, m.order(), m.order(), m.order()}
	case *impl.Answer:
		return impl.Answer{Code: m.below(3), V: m.below(3), Text: m.texts[m.below(2)], Bytes: m.bytes()}
	}
	panic("no argument of " + t.String())
}

// The same, in memory of its own, with marked room behind each list.
func laidAnew(v reflect.Value) reflect.Value {
	out := reflect.New(v.Type()).Elem()
	switch v.Kind() {
	case reflect.String:
		out.SetString(strings.Clone(v.String()))
	case reflect.Slice:
		const room = 3
		list := reflect.MakeSlice(v.Type(), v.Len()+room, v.Len()+room)
		for i := range v.Len() {
			list.Index(i).Set(laidAnew(v.Index(i)))
		}
		for i := range room {
			mark(list.Index(v.Len() + i))
		}
		out.Set(list.Slice(0, v.Len()))
	case reflect.Struct:
		for i := range v.NumField() {
			out.Field(i).Set(laidAnew(v.Field(i)))
		}
	default:
		out.Set(v)
	}
	return out
}

// What nothing that is answered looks like.
func mark(v reflect.Value) {
	switch v.Kind() {
	case reflect.Int:
		v.SetInt(-77)
	case reflect.Uint8:
		v.SetUint(77)
	case reflect.Struct:
		mark(v.Field(0))
	case reflect.Bool:
		v.SetBool(true)
	}
}

// All of it as a text, with the room behind each list.
func tellWhole(to *strings.Builder, v reflect.Value) {
	switch v.Kind() {
	case reflect.Slice:
		all := v.Slice3(0, v.Cap(), v.Cap())
		for i := range all.Len() {
			tellWhole(to, all.Index(i))
		}
	case reflect.Struct:
		for i := range v.NumField() {
			tellWhole(to, v.Field(i))
		}
	default:
		fmt.Fprintf(to, "%q", fmt.Sprint(v.Interface()))
	}
	to.WriteString(";")
}

func wholeText(args []reflect.Value) string {
	var out strings.Builder
	for _, arg := range args {
		tellWhole(&out, arg)
	}
	return out.String()
}

// The places of memory that a value has, from and to: of its lists, and of its texts, too, if they are asked for.
func memoryOf(v reflect.Value, withTexts bool) [][2]uintptr {
	var out [][2]uintptr
	switch v.Kind() {
	case reflect.String:
		if withTexts && v.Len() > 0 {
			from := uintptr(unsafe.Pointer(unsafe.StringData(v.String())))
			out = append(out, [2]uintptr{from, from + uintptr(v.Len())})
		}
	case reflect.Slice:
		if v.Cap() > 0 {
			out = append(out, [2]uintptr{v.Pointer(), v.Pointer() + uintptr(v.Cap())*v.Type().Elem().Size()})
		}
		for i := range v.Len() {
			out = append(out, memoryOf(v.Index(i), withTexts)...)
		}
	case reflect.Struct:
		for i := range v.NumField() {
			out = append(out, memoryOf(v.Field(i), withTexts)...)
		}
	}
	return out
}

func overlap(a [2]uintptr, b [2]uintptr) bool { return a[0] < b[1] && b[0] < a[1] }

func meet(places [][2]uintptr, others [][2]uintptr) bool {
	return slices.ContainsFunc(places, func(a [2]uintptr) bool {
		return slices.ContainsFunc(others, func(b [2]uintptr) bool { return overlap(a, b) })
	})
}

func toldBy(results []reflect.Value) string {
	text := ""
	for _, result := range results {
		text += fmt.Sprint(result.Interface()) + ";"
	}
	return text
}

func checkCall(t *testing.T, name string, f reflect.Value, args []reflect.Value) string {
	t.Helper()
	before := wholeText(args)
	results := f.Call(args)
	if before != wholeText(args) {
		t.Fatalf("%s wrote into an argument, or behind it: %s", name, briefly(before))
	}
	var taken, given [][2]uintptr
	for _, arg := range args {
		taken = append(taken, memoryOf(arg, true)...)
	}
	for _, result := range results {
		if meet(memoryOf(result, true), taken) {
			t.Fatalf("%s: an answer shares memory with an argument: %s", name, briefly(before))
		}
		// Texts that are the program's own constants may be one.
		given = append(given, memoryOf(result, false)...)
	}
	for i := range given {
		if meet(given[i:i+1], given[:i]) {
			t.Fatalf("%s: two lists of one answer share memory: %s", name, briefly(before))
		}
	}
	return toldBy(results)
}

// One call, and what it told.
type call struct {
	name string
	f    reflect.Value
	args []reflect.Value
	told string
}

func TestEveryFunctionAnswersAtAnything(t *testing.T) {
	t.Parallel()
	faces := allFaces()
	names := []string{}
	for name := range faces {
		names = append(names, name)
	}
	slices.Sort(names)
	m := newAnything(29292929)
	var calls []call
	for _, name := range names {
		f := reflect.ValueOf(faces[name])
		for range 250 {
			var args []reflect.Value
			for i := range f.Type().NumIn() {
				args = append(args, laidAnew(reflect.ValueOf(m.argument(f.Type().In(i)))))
			}
			calls = append(calls, call{name: name, f: f, args: args, told: checkCall(t, name, f, args)})
		}
	}
	// Again, in another order, and by many at once.
	for i := range calls {
		other := m.below(len(calls))
		calls[i], calls[other] = calls[other], calls[i]
	}
	var all sync.WaitGroup
	for part := range 4 {
		all.Go(func() {
			for i := part; i < len(calls); i += 2 {
				c := calls[i]
				if told := toldBy(c.f.Call(c.args)); told != c.told {
					t.Errorf("%s is another one the second time: %s, and was %s", c.name, briefly(told), briefly(c.told))
				}
			}
		})
	}
	all.Wait()
}
