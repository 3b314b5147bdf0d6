package tests

import (
	"bytes"
	"fmt"
	"math"
	"slices"
	"strings"
	"testing"
	"unsafe"

	"loop.example/g00481/impl"
)

const greatestPut = 2147483647

// Promise 1: what is written is read as it was.

func TestDigitsOfNamedNumbers(t *testing.T) {
	cases := []struct {
		n    int
		want string
	}{
		{0, "0"}, {7, "7"}, {-7, "-7"}, {10, "10"}, {-70, "-70"}, {120, "120"},
		{999999, "999999"}, {1000000, "1000000"}, {greatestPut, "2147483647"},
		{math.MaxInt, "9223372036854775807"},
		{math.MinInt, "-9223372036854775808"},
		{math.MinInt + 1, "-9223372036854775807"},
	}
	for _, c := range cases {
		if got := impl.Digits(c.n); got != c.want {
			t.Errorf("Digits(%d) = %q, want %q", c.n, got, c.want)
		}
	}
}

func TestNumberReadsAllThatDigitsWrites(t *testing.T) {
	for n := 0; n <= 999999; n++ {
		s := impl.Digits(n)
		if got, ok := impl.Number(s); got != n || !ok {
			t.Fatalf("Number(%q) = %d, %v", s, got, ok)
		}
	}
}

func TestNumberRefuses(t *testing.T) {
	cases := []string{
		"", "-", "+", "-0", "+0", "-1", "+1", "-999999", "--1",
		"00", "01", "012", "000000", "0999999", "00000000000000000001",
		"1000000", "1000001", "9999999", "2147483647", "4294967296",
		"18446744073709551616", "18446744073709551617", "184467440737095516160",
		"9223372036854775807", "-9223372036854775808",
		" 1", "1 ", "1\n", "\x001", "1\x00", "1.", ".1", "1.0", "1e3", "0x1", "1_000", "1,000",
		"a", "1a", "a1", "/", ":", "1/", "1:", "/1", ":1", "²", "\u0661", "\uff11", "\xff", "1\xb1",
		strings.Repeat("0", 1000), strings.Repeat("1", 1000), "1" + strings.Repeat("0", 64),
	}
	for _, s := range cases {
		if got, ok := impl.Number(s); got != 0 || ok {
			t.Errorf("Number(%q) = %d, %v, want 0, false", s, got, ok)
		}
	}
}

// Of short texts Number must know just those that Digits writes.
func TestNumberOfAllShortTexts(t *testing.T) {
	written := map[string]int{}
	for n := range 100 {
		written[fmt.Sprint(n)] = n
	}
	check := func(s string) {
		want, known := written[s]
		if got, ok := impl.Number(s); got != want || ok != known {
			t.Errorf("Number(%q) = %d, %v, want %d, %v", s, got, ok, want, known)
		}
	}
	for i := range 256 {
		check(string([]byte{byte(i)}))
		for j := range 256 {
			check(string([]byte{byte(i), byte(j)}))
		}
	}
}

func TestPutNumOfNamedNumbers(t *testing.T) {
	cases := []struct {
		n    int
		want []byte
	}{
		{0, []byte{0}}, {1, []byte{1}}, {127, []byte{127}},
		{128, []byte{128, 1}}, {129, []byte{129, 1}}, {300, []byte{172, 2}},
		{16383, []byte{255, 127}}, {16384, []byte{128, 128, 1}},
		{2097151, []byte{255, 255, 127}}, {2097152, []byte{128, 128, 128, 1}},
		{268435455, []byte{255, 255, 255, 127}}, {268435456, []byte{128, 128, 128, 128, 1}},
		{greatestPut - 1, []byte{254, 255, 255, 255, 7}},
		{greatestPut, []byte{255, 255, 255, 255, 7}},
	}
	for _, c := range cases {
		if got := impl.PutNum(c.n); !bytes.Equal(got, c.want) {
			t.Errorf("PutNum(%d) = %v, want %v", c.n, got, c.want)
		}
		if n, next, ok := impl.GetNum(c.want, 0); n != c.n || next != len(c.want) || !ok {
			t.Errorf("GetNum(%v, 0) = %d, %d, %v, want %d", c.want, n, next, ok, c.n)
		}
	}
}

func TestPutNumRefuses(t *testing.T) {
	for _, n := range []int{-1, -2, -128, -300, math.MinInt, greatestPut + 1, greatestPut + 2, 1 << 32, 1<<35 + 1, math.MaxInt} {
		if got := impl.PutNum(n); len(got) != 0 {
			t.Errorf("PutNum(%d) = %v, want nothing", n, got)
		}
	}
}

func sampleNumbers() []int {
	var out []int
	for n := range 70000 {
		out = append(out, n)
	}
	for k := range 31 {
		for d := -3; d <= 3; d++ {
			if n := 1<<k + d; n >= 0 {
				out = append(out, n)
			}
		}
	}
	for n := 0; n <= greatestPut; n += 104729 {
		out = append(out, n)
	}
	return append(out, greatestPut-2, greatestPut-1, greatestPut)
}

func TestGetNumReadsWhatPutNumWrites(t *testing.T) {
	for _, n := range sampleNumbers() {
		b := impl.PutNum(n)
		for _, ahead := range []string{"", "\x80", "\xff\xff\x00"} {
			for _, behind := range []string{"", "\x00", "\xff", "\x80\x80\x80\x80\x80\x80"} {
				all := []byte(ahead + string(b) + behind)
				got, next, ok := impl.GetNum(all, len(ahead))
				if got != n || next != len(ahead)+len(b) || !ok {
					t.Fatalf("GetNum(%v, %d) = %d, %d, %v, want %d", all, len(ahead), got, next, ok, n)
				}
			}
		}
	}
}

func TestGetNumReadsARow(t *testing.T) {
	row := []int{0, 300, 0, 127, 128, greatestPut, 1, 16384, greatestPut, 0}
	var b []byte
	for _, n := range row {
		b = append(b, impl.PutNum(n)...)
	}
	at := 0
	for i, n := range row {
		got, next, ok := impl.GetNum(b, at)
		if got != n || !ok || next <= at {
			t.Fatalf("number %d at %d: %d, %d, %v, want %d", i, at, got, next, ok, n)
		}
		at = next
	}
	if at != len(b) {
		t.Errorf("ended at %d of %d", at, len(b))
	}
}

func TestGetNumRefuses(t *testing.T) {
	cases := []struct {
		why string
		b   []byte
		at  int
	}{
		{"nothing", nil, 0},
		{"empty", []byte{}, 0},
		{"longer than need be: 0", []byte{128, 0}, 0},
		{"longer than need be: 1", []byte{129, 0}, 0},
		{"longer than need be: 127", []byte{255, 0}, 0},
		{"longer than need be: 0 in three", []byte{128, 128, 0}, 0},
		{"longer than need be: 0 in five", []byte{128, 128, 128, 128, 0}, 0},
		{"longer than need be: 128", []byte{128, 129, 0}, 0},
		{"longer than need be: 268435455", []byte{255, 255, 255, 255, 0}, 0},
		{"longer than need be: the greatest", []byte{255, 255, 255, 255, 135, 0}, 0},
		{"longer than need be: 0 in ten", []byte{128, 128, 128, 128, 128, 128, 128, 128, 128, 0}, 0},
		{"cut short", []byte{128}, 0},
		{"cut short", []byte{172}, 0},
		{"cut short", []byte{1, 255, 255, 255, 255}, 1},
		{"cut short", []byte{128, 128, 128, 128, 128, 128}, 0},
		{"one above the greatest", []byte{128, 128, 128, 128, 8}, 0},
		{"above the greatest", []byte{255, 255, 255, 255, 8}, 0},
		{"above the greatest", []byte{128, 128, 128, 128, 16}, 0},
		{"above the greatest", []byte{129, 128, 128, 128, 16}, 0},
		{"above the greatest", []byte{255, 255, 255, 255, 127}, 0},
		{"above the greatest, six", []byte{128, 128, 128, 128, 128, 1}, 0},
		{"above the greatest, ten", []byte{129, 128, 128, 128, 128, 128, 128, 128, 128, 2}, 0},
		{"above the greatest, eleven", []byte{129, 128, 128, 128, 128, 128, 128, 128, 128, 128, 1}, 0},
		{"long", bytes.Repeat([]byte{128}, 1000), 0},
		{"ahead of the list", []byte{1, 2, 3}, -1},
		{"far ahead of it", []byte{1, 2, 3}, math.MinInt},
		{"behind the list", []byte{1, 2, 3}, 3},
		{"behind the list", []byte{1, 2, 3}, 4},
		{"far behind it", []byte{1, 2, 3}, math.MaxInt},
		{"in the spare room", []byte{1, 2, 3, 4}[:2], 2},
		{"into the spare room", []byte{1, 128, 3, 4}[:2], 1},
	}
	for _, c := range cases {
		if n, next, ok := impl.GetNum(c.b, c.at); n != 0 || next != 0 || ok {
			t.Errorf("%s: GetNum(%v, %d) = %d, %d, %v, want 0, 0, false", c.why, c.b, c.at, n, next, ok)
		}
	}
}

// Of short lists GetNum must know just those that begin as PutNum writes.
func TestGetNumOfAllShortLists(t *testing.T) {
	for i := range 256 {
		for j := range 256 {
			b := []byte{byte(i), byte(j)}
			want, end := 0, 0
			if i < 128 {
				want, end = i, 1
			} else if j > 0 && j < 128 {
				want, end = i-128+128*j, 2
			}
			if n, next, ok := impl.GetNum(b, 0); n != want || next != end || ok != (end > 0) {
				t.Errorf("GetNum(%v, 0) = %d, %d, %v, want %d, %d", b, n, next, ok, want, end)
			}
		}
	}
}

func TestPartsOfNamedTexts(t *testing.T) {
	cases := []struct {
		s    string
		by   byte
		want []string
	}{
		{"", ',', []string{""}},
		{"", 0, []string{""}},
		{",", ',', []string{"", ""}},
		{",,", ',', []string{"", "", ""}},
		{"a", ',', []string{"a"}},
		{"a,b", ',', []string{"a", "b"}},
		{"a,,b,", ',', []string{"a", "", "b", ""}},
		{",a", ',', []string{"", "a"}},
		{"in Q4.12", ' ', []string{"in", "Q4.12"}},
		{"a\nb\n", '\n', []string{"a", "b", ""}},
		{"a\x00b", 0, []string{"a", "b"}},
		{"a\xffb\xff", 255, []string{"a", "b", ""}},
		{"\u00e9", 0xc3, []string{"", "\xa9"}},
		{"\u00e9", 0xa9, []string{"\xc3", ""}},
		{"\u00e9", 0xe9, []string{"\u00e9"}},
		{"\u0080", 0x80, []string{"\xc2", ""}},
	}
	for _, c := range cases {
		if got := impl.Parts(c.s, c.by); !slices.Equal(got, c.want) {
			t.Errorf("Parts(%q, %d) = %q, want %q", c.s, c.by, got, c.want)
		}
	}
}

func TestPartsMakeTheTextAgain(t *testing.T) {
	every := make([]byte, 0, 512)
	for i := range 256 {
		every = append(every, byte(i), byte(255-i))
	}
	for _, s := range []string{"", "aaa", "a,b,,c", string(every), strings.Repeat(",x", 500)} {
		for i := range 256 {
			by := string([]byte{byte(i)})
			parts := impl.Parts(s, byte(i))
			if strings.Join(parts, by) != s || len(parts) != strings.Count(s, by)+1 {
				t.Errorf("Parts(%q, %d) = %q", s, i, parts)
			}
			for _, part := range parts {
				if strings.Contains(part, by) {
					t.Errorf("Parts(%q, %d): %q is not one part", s, i, part)
				}
			}
		}
	}
}

// Promise 29: every function answers at any arguments, and writes into none.

func edgeNumbers() []int {
	out := []int{math.MinInt, math.MinInt + 1, math.MaxInt - 1, math.MaxInt}
	for k := range 63 {
		out = append(out, 1<<k-1, 1<<k, 1<<k+1, -1<<k, -1<<k-1)
	}
	return out
}

func edgeTexts() []string {
	out := []string{"", "\x00", "\x80", "\xff", "-", "999999", "1000000", "\xed\xa0\x80", "\xf4\x90\x80\x80"}
	for n := range 40 {
		out = append(out, strings.Repeat("9", n), strings.Repeat("\x80", n), strings.Repeat("\xff", n)+"\x00")
	}
	return append(out, strings.Repeat("7", 1<<20), strings.Repeat("\x81", 1<<20))
}

func TestNumbersAsTextAnswerAtAnything(t *testing.T) {
	defer func() {
		if r := recover(); r != nil {
			t.Fatal("panic:", r)
		}
	}()
	for _, n := range edgeNumbers() {
		if impl.Digits(n) != fmt.Sprint(n) {
			t.Error("Digits", n)
		}
		if b := impl.PutNum(n); (len(b) > 0) != (n >= 0 && n <= greatestPut) {
			t.Error("PutNum", n, b)
		}
	}
	for _, s := range edgeTexts() {
		impl.Number(s)
		for _, by := range []byte{0, ',', 127, 128, 255} {
			impl.Parts(s, by)
		}
		for _, at := range edgeNumbers() {
			impl.GetNum([]byte(s), at)
		}
	}
}

func TestGetNumWritesIntoNothing(t *testing.T) {
	for _, s := range edgeTexts() {
		whole := []byte(s + "\x81\x82\x03spare")
		before := bytes.Clone(whole)
		for _, at := range []int{-1, 0, 1, len(s) - 1, len(s), len(s) + 1, math.MinInt, math.MaxInt} {
			impl.GetNum(whole[:len(s)], at)
		}
		if !bytes.Equal(whole, before) {
			t.Errorf("GetNum wrote into a list of %d bytes, or behind it", len(s))
		}
	}
}

func TestPartsAreNewMemory(t *testing.T) {
	s := strings.Repeat("ab,", 20) + "c"
	first := uintptr(unsafe.Pointer(unsafe.StringData(s)))
	for _, by := range []byte{',', 'c', 'x'} {
		for _, part := range impl.Parts(s, by) {
			if part == "" {
				continue
			}
			at := uintptr(unsafe.Pointer(unsafe.StringData(part)))
			if at >= first && at < first+uintptr(len(s)) {
				t.Errorf("%q shares memory with its argument", part)
			}
		}
	}
}

func TestAnswersShareNothing(t *testing.T) {
	b := impl.PutNum(300)
	parts := impl.Parts("a,b", ',')
	b[0], parts[0] = 99, "z"
	_ = append(b[:0:cap(b)], 1, 2, 3, 4)
	_ = append(parts[:0:cap(parts)], "q", "q", "q")
	if again := impl.PutNum(300); !bytes.Equal(again, []byte{172, 2}) {
		t.Error("PutNum hands out what it keeps:", again)
	}
	if again := impl.Parts("a,b", ','); !slices.Equal(again, []string{"a", "b"}) {
		t.Error("Parts hands out what it keeps:", again)
	}
}
