package tests

import (
	"bytes"
	"encoding/binary"
	"hash/adler32"
	"math"
	"math/big"
	"slices"
	"strings"
	"sync"
	"testing"

	"loop.example/g00481/impl"
)

// Promise 26: tables are read as they were; one byte that is another one is told.

const (
	mostRom   = 64
	mostRomAt = 100
)

var (
	noRomPlaces = []int{math.MinInt, math.MinInt + 1, -100, -1, 0, 101, 102, 118, 128, 200, 1 << 32, 1<<32 + 5, math.MaxInt - 1, math.MaxInt}
	noRomSizes  = []int{math.MinInt, math.MinInt + 1, -64, -2, -1, 65, 66, 120, 128, 1 << 32, 1<<32 + 5, math.MaxInt - 1, math.MaxInt}
)

func romOf(p int, gain impl.Whole, angles ...impl.Whole) impl.Rom {
	return impl.Rom{P: p, N: len(angles), Angles: angles, Gain: gain}
}

func smallRom(p int, gain int, angles ...int) impl.Rom {
	out := romOf(p, impl.WholeOf(gain))
	for _, angle := range angles {
		out.Angles = append(out.Angles, impl.WholeOf(angle))
	}
	out.N = len(angles)
	return out
}

func romLists(r impl.Rom) [][]int {
	out := [][]int{r.Gain.Mag}
	for _, angle := range r.Angles {
		out = append(out, angle.Mag)
	}
	return out
}

func sameRom(a impl.Rom, b impl.Rom) bool {
	return a.P == b.P && a.N == b.N && slices.EqualFunc(a.Angles, b.Angles, sameWhole) && sameWhole(a.Gain, b.Gain)
}

func isNoRom(r impl.Rom) bool { return sameRom(r, impl.Rom{}) }

// The sum is put behind whatever stands ahead of it.
func summed(ahead []byte) []byte {
	return binary.BigEndian.AppendUint32(slices.Clone(ahead), adler32.Checksum(ahead))
}

// The mark, and such numbers behind it.
func aheadOf(ns ...int) []byte {
	out := []byte("GNM")
	for _, n := range ns {
		out = binary.AppendUvarint(out, uint64(n))
	}
	return out
}

func romNumbers(r impl.Rom) []int {
	out := []int{r.P, r.N}
	for _, a := range append(slices.Clone(r.Angles), r.Gain) {
		out = append(append(out, len(a.Mag)), a.Mag...)
	}
	return out
}

func bytesOfRom(r impl.Rom) []byte { return summed(aheadOf(romNumbers(r)...)) }

// Tables that are none that RomMake makes: numbers of any size that fits, some of them the same.
func oddRoms() []impl.Rom {
	out := []impl.Rom{
		smallRom(1, 0), smallRom(1, 7), smallRom(1, 0, 0), smallRom(1, 7, 7, 7, 0), smallRom(5, 127, 127, 126, 126, 1, 1, 0, 0), smallRom(100, 5, 1<<60, 1<<60),
		romOf(100, wholeOf(near(102, -1)), wholeOf(near(102, -1)), wholeOf(near(102, -1)), wholeOf(near(102, -2)), wholeOf(near(48, 0)), wholeOf(near(24, 0)), wholeOf(near(24, -1))),
		smallRom(100, 1, slices.Repeat([]int{123456789}, mostRom)...),
	}
	m := &mixer{state: 26262626}
	for range 60 {
		p := 1 + m.below(mostRomAt)
		number := func() impl.Whole {
			return wholeOf(new(big.Int).Rsh(bigOf(m.list(5)), uint(120-min(120, m.below(p+3)))))
		}
		angles := make([]impl.Whole, m.below(mostRom+1))
		for i := range angles {
			angles[i] = number()
		}
		slices.SortFunc(angles, func(a impl.Whole, b impl.Whole) int { return -impl.WholeCmp(a, b) })
		out = append(out, romOf(p, number(), angles...))
	}
	return out
}

func madeRoms() []impl.Rom {
	var out []impl.Rom
	for _, size := range [][2]int{{1, 0}, {1, 1}, {1, 64}, {2, 3}, {8, 2}, {16, 3}, {22, 30}, {24, 24}, {46, 47}, {60, 62}, {99, 63}, {100, 0}, {100, 1}, {100, 64}} {
		r, _ := impl.RomMake(size[0], size[1])
		out = append(out, r)
	}
	return out
}

func TestRomLimitsAndReasons(t *testing.T) {
	if impl.MaxRom != mostRom || !slices.Equal([]int{impl.RmDone, impl.RmShort, impl.RmMark, impl.RmSum, impl.RmForm}, []int{0, 1, 2, 3, 4}) {
		t.Error("the limits or reasons are other ones")
	}
}

func TestRomMakeOfEachSize(t *testing.T) {
	t.Parallel()
	known := stepAngles{}
	check := func(p int, n int) {
		r, ok := impl.RomMake(p, n)
		if !ok || r.P != p || r.N != n || len(r.Angles) != n || !sameWhole(r.Gain, wholeOf(inverseNumber(n, p))) || !impl.RomOk(r) {
			t.Fatalf("RomMake(%d, %d) = %v, %v", p, n, r, ok)
		}
		for i, angle := range r.Angles {
			if want := wholeOf(known.at(p)[i]); !sameWhole(angle, want) {
				t.Fatalf("RomMake(%d, %d): angle %d is %v, want %v", p, n, i, angle, want)
			}
		}
		back, how := impl.RomOf(impl.RomBytes(r))
		if how != impl.RmDone || !sameRom(back, r) {
			t.Fatalf("RomMake(%d, %d) comes back as %v, %d", p, n, back, how)
		}
	}
	for p := 1; p <= mostRomAt; p++ {
		for _, n := range []int{0, 1, 5, 64} {
			check(p, n)
		}
	}
	for n := 0; n <= mostRom; n++ {
		for _, p := range []int{1, 2, 16, 100} {
			check(p, n)
		}
	}
}

func TestRomMakeNamedOnes(t *testing.T) {
	cases := []struct {
		p, n   int
		angles []int
		gain   int
	}{
		// At 1 bit the angles are 1 and 0, and then below 0, which is 0.
		{1, 0, nil, 2}, {1, 3, []int{1, 0, 0}, 1}, {10, 2, []int{804, 474}, 647}, {16, 3, []int{51471, 30385, 16054}, 40210}, {5, 1, []int{25}, 22},
	}
	for _, c := range cases {
		r, ok := impl.RomMake(c.p, c.n)
		if !ok || !sameRom(r, smallRom(c.p, c.gain, c.angles...)) {
			t.Errorf("RomMake(%d, %d) = %v, %v", c.p, c.n, r, ok)
		}
	}
}

func TestRomMakeRefuses(t *testing.T) {
	for _, p := range slices.Concat(noRomPlaces, []int{1, 100}) {
		for _, n := range slices.Concat(noRomSizes, []int{0, 64}) {
			r, ok := impl.RomMake(p, n)
			if slices.Contains(noRomPlaces, p) || slices.Contains(noRomSizes, n) {
				if ok || !isNoRom(r) {
					t.Errorf("RomMake(%d, %d) = %v, %v", p, n, r, ok)
				}
			} else if !ok {
				t.Errorf("RomMake(%d, %d) is refused", p, n)
			}
		}
	}
}

// Each is all but a table.
func badRoms() []impl.Rom {
	out := []impl.Rom{
		{}, smallRom(5, 1, 1, 2), smallRom(5, 1, 3, 3, 4), smallRom(5, 1, 9, 8, 7, 8), smallRom(5, 128, 1), smallRom(5, 1, 128), smallRom(5, 1, 127, 128), smallRom(5, -1, 1), smallRom(5, 1, 1, -1), smallRom(5, 1, -1),
		smallRom(1, 8), smallRom(1, 1, 8), romOf(100, wholeOf(near(102, 0))), romOf(100, impl.WholeOf(1), wholeOf(near(102, 0))), smallRom(100, 1, slices.Repeat([]int{1}, 65)...),
		{P: 5, N: 0, Angles: []impl.Whole{impl.WholeOf(1)}}, {P: 5, N: 1}, {P: 5, N: 2, Angles: []impl.Whole{impl.WholeOf(1)}}, {P: 5, N: 1, Angles: []impl.Whole{impl.WholeOf(1), impl.WholeOf(1)}}, {P: 5, N: 64}, {P: 5, N: -1},
		{P: 5, N: 65, Angles: make([]impl.Whole, 65)}, {P: 5, N: 100000, Angles: make([]impl.Whole, 100000)}, {P: 5, N: 3, Angles: make([]impl.Whole, 100000)},
	}
	for _, p := range noRomPlaces {
		out = append(out, impl.Rom{P: p}, impl.Rom{P: p, N: 1, Angles: []impl.Whole{impl.WholeOf(1)}, Gain: impl.WholeOf(1)})
	}
	for _, n := range noRomSizes {
		out = append(out, impl.Rom{P: 5, N: n}, impl.Rom{P: 5, N: n, Angles: []impl.Whole{impl.WholeOf(1)}})
	}
	for _, bad := range badWholes() {
		out = append(out, romOf(50, bad), romOf(50, impl.WholeOf(1), bad), romOf(50, impl.WholeOf(1), impl.WholeOf(5), bad), romOf(50, impl.WholeOf(1), bad, impl.WholeOf(0)))
	}
	return out
}

func TestRomOkTellsTables(t *testing.T) {
	for _, r := range slices.Concat(madeRoms(), oddRoms()) {
		if !impl.RomOk(r) {
			t.Errorf("RomOk(%v) is false", r)
		}
	}
	for i, r := range badRoms() {
		if impl.RomOk(r) {
			t.Errorf("RomOk of the %dth is true: P %d, N %d, %d angles", i, r.P, r.N, len(r.Angles))
		}
		if got := impl.RomBytes(r); len(got) != 0 {
			t.Errorf("RomBytes of the %dth: %v", i, briefly(string(got)))
		}
	}
}

// Numbers of P + 2 bits may stand there, of one more they may not, whatever P is.
func TestRomOkCountsBits(t *testing.T) {
	for p := 1; p <= mostRomAt; p++ {
		most, more := wholeOf(near(p+2, -1)), wholeOf(near(p+2, 0))
		if !impl.RomOk(romOf(p, most, most, most)) {
			t.Errorf("at %d %d bits are refused", p, p+2)
		}
		if impl.RomOk(romOf(p, more, most, most)) || impl.RomOk(romOf(p, most, more, most)) || impl.RomOk(romOf(p, most, more, more)) {
			t.Errorf("at %d %d bits are taken", p, p+3)
		}
	}
}

func TestRomSameTellsTablesApart(t *testing.T) {
	all := slices.Concat(madeRoms(), oddRoms()[:12], badRoms()[:22])
	for _, a := range all {
		for _, b := range all {
			if impl.RomSame(a, b) != sameRom(a, b) {
				t.Errorf("RomSame(%v, %v) is %v", a, b, !sameRom(a, b))
			}
		}
	}
	r := smallRom(16, 40209, 51471, 30385, 16054)
	others := []impl.Rom{smallRom(17, 40209, 51471, 30385, 16054), smallRom(16, 40208, 51471, 30385, 16054), smallRom(16, 40209, 51470, 30385, 16054), smallRom(16, 40209, 51471, 30385, 16053), smallRom(16, 40209, 51471, 30385), smallRom(16, -40209, 51471, 30385, 16054), smallRom(16, 40209, 51471, -30385, 16054), smallRom(16, 40209, 30385, 51471, 16054)}
	more := smallRom(16, 40209, 51471, 30385, 16054)
	more.N = 2
	for i, other := range append(others, more) {
		if impl.RomSame(r, other) || impl.RomSame(other, r) {
			t.Errorf("the %dth is the same", i)
		}
	}
	// An empty list and nil are the same.
	bare, empty := impl.Rom{P: 3}, impl.Rom{P: 3, Angles: []impl.Whole{}, Gain: impl.Whole{Mag: []int{}}}
	if !impl.RomSame(bare, empty) || !impl.RomSame(empty, bare) || !impl.RomOk(empty) || !bytes.Equal(impl.RomBytes(bare), impl.RomBytes(empty)) {
		t.Error("an empty list is another one than nil")
	}
	if !impl.RomSame(impl.Rom{N: 1, Angles: []impl.Whole{{Mag: []int{}}}}, impl.Rom{N: 1, Angles: []impl.Whole{{}}}) {
		t.Error("an angle of an empty list is another one than nil")
	}
}

func TestRomBytesNamedOnes(t *testing.T) {
	cases := []struct {
		r    impl.Rom
		want string
	}{
		// The marks are 71, 78 and 77; of them and 1, 0 and 0 the sums are 228 and 1133.
		{smallRom(1, 0), "GNM\x01\x00\x00\x04\x6d\x00\xe4"},
		// 300 is 172 and 2; 2^24 is two limbs, 0 and 1.
		{smallRom(30, 300, 1<<24), "GNM\x1e\x01\x02\x00\x01\x01\xac\x02"},
		{smallRom(16, 0, 128, 128, 127), "GNM\x10\x03\x01\x80\x01\x01\x80\x01\x01\x7f\x00"},
	}
	for _, c := range cases {
		got := impl.RomBytes(c.r)
		if !strings.HasPrefix(string(got), c.want) || !bytes.Equal(got, bytesOfRom(c.r)) {
			t.Errorf("RomBytes(%v) = %q, want %q", c.r, got, c.want)
		}
	}
}

func TestTablesAreReadAsTheyWere(t *testing.T) {
	for _, r := range slices.Concat(madeRoms(), oddRoms()) {
		b := impl.RomBytes(r)
		if !bytes.Equal(b, bytesOfRom(r)) {
			t.Fatalf("RomBytes(%v) = %v", r, b)
		}
		back, how := impl.RomOf(b)
		if how != impl.RmDone || !sameRom(back, r) || !impl.RomSame(back, r) {
			t.Fatalf("%v comes back as %v, %d", r, back, how)
		}
	}
}

func refusedRom(t *testing.T, name string, b []byte, want int) {
	t.Helper()
	if r, how := impl.RomOf(b); how != want || !isNoRom(r) {
		t.Errorf("%s: RomOf(%q) = %v, %d, want %d", name, briefly(string(b)), r, how, want)
	}
}

// Each byte, turned into each other one.
func TestOneOtherByteIsTold(t *testing.T) {
	t.Parallel()
	for _, r := range slices.Concat(madeRoms()[:8], oddRoms()[:7]) {
		b := impl.RomBytes(r)
		for i := range b {
			want := impl.RmSum
			if i < 3 {
				want = impl.RmMark
			}
			for d := 1; d < 256; d++ {
				other := slices.Clone(b)
				other[i] += byte(d)
				refusedRom(t, "one byte is another one", other, want)
			}
		}
	}
}

// One byte less at either end, or one more, is told, too.
func TestMissingAndFurtherBytesAreTold(t *testing.T) {
	for _, r := range slices.Concat(madeRoms(), oddRoms()) {
		b := impl.RomBytes(r)
		for i := range b {
			want := impl.RmSum
			if i < 9 {
				want = impl.RmShort
			}
			// What is left may happen to end with its own sum, but not here.
			refusedRom(t, "the end is missing", b[:i], want)
		}
		refusedRom(t, "the first is missing", b[1:], impl.RmMark)
		refusedRom(t, "one more ahead", slices.Concat([]byte{0}, b), impl.RmMark)
		refusedRom(t, "one more behind", append(slices.Clone(b), b[len(b)-1]+1), impl.RmSum)
		ahead := b[:len(b)-4]
		refusedRom(t, "one more, and the right sum", summed(append(slices.Clone(ahead), 0)), impl.RmForm)
		refusedRom(t, "as much again, and the right sum", summed(slices.Concat(ahead, ahead)), impl.RmForm)
		refusedRom(t, "the last is missing, and the right sum", summed(ahead[:len(ahead)-1]), impl.RmForm)
	}
}

// What comes first counts, where two reasons hold at once.
func TestRomOfTellsTheFirstReason(t *testing.T) {
	good := impl.RomBytes(smallRom(1, 0))
	for n := range 9 {
		refusedRom(t, "short", good[:n], impl.RmShort)
		refusedRom(t, "short, and without a mark", make([]byte, n), impl.RmShort)
		refusedRom(t, "short, with a right sum", summed([]byte("GNM\x01\x00\x00"))[10-n:], impl.RmShort)
	}
	refusedRom(t, "nothing", nil, impl.RmShort)
	refusedRom(t, "eight bytes and the right sum", summed([]byte("GNM\x01")), impl.RmShort)
	refusedRom(t, "nine bytes and the right sum", summed([]byte("GNM\x01\x00")), impl.RmForm)
	refusedRom(t, "nine bytes and a wrong sum", []byte("GNM\x01\x00abcd"), impl.RmSum)
	refusedRom(t, "nine bytes without a mark", []byte("GNm\x01\x00abcd"), impl.RmMark)
	refusedRom(t, "nine bytes of nought", make([]byte, 9), impl.RmMark)
	for _, mark := range []string{"gnm", "GNN", "GMN", "XNM", "G\x00M", "NGM", " GN", "\x00\x00\x00", "\xff\xff\xff"} {
		refusedRom(t, "another mark, and the right sum", summed([]byte(mark+"\x01\x00\x00")), impl.RmMark)
		refusedRom(t, "another mark, and a wrong sum", []byte(mark+"\x01\x00\x00abcd"), impl.RmMark)
		refusedRom(t, "another mark, and no form", summed([]byte(mark+"\x00\x00\x00")), impl.RmMark)
	}
	refusedRom(t, "a wrong sum, and no form", []byte("GNM\x00\x00\x00abcd"), impl.RmSum)
	// The four bytes of the sum in another order.
	turned := slices.Clone(good)
	slices.Reverse(turned[len(turned)-4:])
	refusedRom(t, "the low byte first", turned, impl.RmSum)
}

func TestRomOfRefusesOtherForms(t *testing.T) {
	form := func(name string, ahead []byte) {
		t.Helper()
		refusedRom(t, name, summed(ahead), impl.RmForm)
	}
	numbers := func(name string, ns ...int) {
		t.Helper()
		form(name, aheadOf(ns...))
	}
	if r, how := impl.RomOf(summed(aheadOf(5, 2, 1, 9, 1, 9, 0))); how != impl.RmDone || !sameRom(r, smallRom(5, 0, 9, 9)) {
		t.Error("what is right is refused:", r, how)
	}
	numbers("P of 0", 0, 0, 0)
	numbers("P of 101", 101, 0, 0)
	numbers("P of 200", 200, 0, 0)
	numbers("P of 2^31 - 1", math.MaxInt32, 0, 0)
	numbers("P of 2^31", 1<<31, 0, 0)
	numbers("N of 65", append([]int{5, 65}, make([]int, 66)...)...)
	numbers("N of 2^31 - 1", 5, math.MaxInt32, 0)
	numbers("less angles than N", 5, 2, 1, 9, 0)
	numbers("no gain", 5, 2, 1, 9, 1, 9)
	numbers("more angles than N", 5, 2, 1, 9, 1, 9, 1, 9, 0)
	numbers("an angle above the one ahead", 5, 2, 1, 9, 1, 10, 0)
	numbers("an angle of P + 3 bits", 5, 1, 1, 128, 0)
	numbers("a gain of P + 3 bits", 5, 0, 1, 128)
	numbers("a limb of 0 on top", 50, 1, 2, 9, 0, 0)
	numbers("a limb of 0 alone", 50, 0, 1, 0)
	numbers("a gain with a limb of 0 on top", 50, 0, 3, 9, 9, 0)
	numbers("a limb of 2^24", 50, 0, 1, 1<<24)
	numbers("a low limb of 2^24", 50, 0, 2, 1<<24, 1)
	numbers("a limb of 2^31 - 1", 50, 0, 1, math.MaxInt32)
	numbers("less limbs than are said", 50, 0, 2, 9)
	numbers("48 limbs", append([]int{50, 0, 48}, slices.Repeat([]int{1}, 48)...)...)
	numbers("49 limbs", append([]int{50, 0, 49}, slices.Repeat([]int{1}, 49)...)...)
	numbers("2^31 - 1 limbs", 50, 0, math.MaxInt32, 1)
	// Numbers that are written too long, each in its place.
	form("a long P", []byte("GNM\x85\x00\x00\x00"))
	form("a long N", []byte("GNM\x05\x80\x00\x00"))
	form("a longer N", []byte("GNM\x05\x80\x80\x00\x00"))
	form("a long count", []byte("GNM\x05\x00\x81\x00\x09"))
	form("a long limb", []byte("GNM\x05\x00\x01\x89\x00"))
	form("a number without an end", []byte("GNM\x05\x00\x01\x89"))
	form("numbers without an end", append([]byte("GNM"), bytes.Repeat([]byte{255}, 50)...))
	form("a number of six bytes", []byte("GNM\x05\x00\x01\x89\x80\x80\x80\x80\x01"))
	form("nothing behind the mark but noughts", append([]byte("GNM"), make([]byte, 100)...))
}

// A table with some bytes changed and a right sum is read just where it is a table.
func TestTablesWithAnotherSum(t *testing.T) {
	t.Parallel()
	m := &mixer{state: 62626262}
	roms := oddRoms()[1:7]
	done, refused := 0, 0
	for range 30000 {
		ahead := aheadOf(romNumbers(roms[m.below(len(roms))])...)
		for range 1 + m.below(2) {
			ahead[3+m.below(len(ahead)-3)] = byte(m.below(256) >> m.below(9))
		}
		b := summed(ahead)
		got, how := impl.RomOf(b)
		switch how {
		case impl.RmDone:
			done++
			if !impl.RomOk(got) || !bytes.Equal(bytesOfRom(got), b) {
				t.Fatalf("RomOf(%q) = %v", b, got)
			}
		case impl.RmForm:
			refused++
			if !isNoRom(got) {
				t.Fatalf("RomOf(%q) = %v, %d", b, got, how)
			}
		default:
			t.Fatalf("RomOf(%q) tells %d", b, how)
		}
	}
	if done < 100 || refused < 100 {
		t.Error(done, "were read and", refused, "were not")
	}
}

func TestAdlerNamedOnes(t *testing.T) {
	// Of "ab": 98 and 98 more are 196; 98 and 196 together are 294.
	for text, want := range map[string]int{"": 1, "a": 98<<16 + 98, "\x00": 1<<16 + 1, "\xff": 256<<16 + 256, "ab": 294<<16 + 196, "Wikipedia": 300286872} {
		if got := impl.Adler([]byte(text)); got != want {
			t.Errorf("Adler(%q) = %d, want %d", text, got, want)
		}
	}
	if impl.Adler(nil) != 1 || impl.Adler([]byte{}) != 1 {
		t.Error("Adler of nothing")
	}
}

func TestAdlerOfManyBytes(t *testing.T) {
	m := &mixer{state: 19950101}
	for _, n := range []int{1, 2, 255, 256, 257, 5551, 5552, 5553, 65520, 65521, 65522, 1 << 20} {
		mixed := make([]byte, n)
		for i := range mixed {
			mixed[i] = byte(m.next())
		}
		for _, b := range [][]byte{bytes.Repeat([]byte{255}, n), make([]byte, n), mixed} {
			if got := impl.Adler(b); got != int(adler32.Checksum(b)) {
				t.Errorf("Adler of %d bytes like %d is %d, want %d", n, b[0], got, adler32.Checksum(b))
			}
		}
	}
}

// Promise 29: every function answers at any arguments, and writes into none; what was answered once is answered again.

func layRom(r impl.Rom) (impl.Rom, []laid) {
	out := impl.Rom{P: r.P, N: r.N}
	var rooms []laid
	for _, angle := range r.Angles {
		a, room := layWhole(angle)
		out.Angles = append(out.Angles, a)
		rooms = append(rooms, room)
	}
	gain, room := layWhole(r.Gain)
	out.Gain = gain
	return out, append(rooms, room)
}

func TestTablesWriteIntoNothingAndShareNothing(t *testing.T) {
	t.Parallel()
	defer mustNotPanic(t)
	for _, r := range slices.Concat(madeRoms(), oddRoms(), badRoms()) {
		if len(r.Angles) > 1000 {
			impl.RomOk(r)
			impl.RomSame(r, r)
			impl.RomBytes(r)
			continue
		}
		x, rooms := layRom(r)
		angles := slices.Clone(x.Angles)
		impl.RomOk(x)
		impl.RomSame(x, r)
		first, second := impl.RomBytes(x), impl.RomBytes(x)
		if !bytes.Equal(first, second) {
			t.Fatal("RomBytes is another one the second time")
		}
		if len(first) > 0 {
			// What is handed out is written over: the other one must not be.
			clear(first[:cap(first)])
			if !bytes.Equal(second, impl.RomBytes(x)) {
				t.Fatal("RomBytes shares memory")
			}
		}
		checkApart(t, "RomBytes", rooms)
		if !slices.EqualFunc(angles, x.Angles, sameWhole) {
			t.Fatal("the angles were written over")
		}
	}
}

func TestRomOfWritesIntoNothingAndSharesNothing(t *testing.T) {
	for _, r := range slices.Concat(madeRoms(), oddRoms()) {
		b := append(impl.RomBytes(r), "room"...)
		arg := b[: len(b)-4 : len(b)]
		first, _ := impl.RomOf(arg)
		second, how := impl.RomOf(arg)
		made, _ := impl.RomMake(r.P, r.N)
		if how != impl.RmDone || string(b[len(b)-4:]) != "room" || !bytes.Equal(arg, bytesOfRom(r)) {
			t.Fatal("RomOf wrote into its bytes, or behind them")
		}
		impl.Adler(arg)
		checkApart(t, "RomOf and RomMake", nil, slices.Concat(romLists(first), romLists(second), romLists(made))...)
		clear(first.Angles[:cap(first.Angles)])
		if !sameRom(second, r) {
			t.Fatal("two answers share their angles")
		}
	}
}

func TestRomOfAnswersAtAnything(t *testing.T) {
	t.Parallel()
	defer mustNotPanic(t)
	m := &mixer{state: 11111111}
	for range 20000 {
		ahead := []byte("GNM")
		for range m.below(40) {
			ahead = append(ahead, byte(m.next()>>m.below(8)))
		}
		for _, b := range [][]byte{ahead, ahead[3:], summed(ahead), summed(ahead[3:])} {
			r, how := impl.RomOf(b)
			if how < impl.RmDone || how > impl.RmForm || how != impl.RmDone && !isNoRom(r) {
				t.Fatalf("RomOf(%q) = %v, %d", b, r, how)
			}
		}
	}
	long := append([]byte("GNM"), bytes.Repeat([]byte{1}, 1<<20)...)
	refusedRom(t, "a million bytes", summed(long), impl.RmForm)
}

// In another order, and by many at once.
func TestTablesAreAnsweredAgain(t *testing.T) {
	ask := func(i int) string {
		r, _ := impl.RomMake(1+i, i%65)
		b := impl.RomBytes(r)
		back, how := impl.RomOf(b)
		text := string(b) + impl.Digits(how) + impl.WholeText(back.Gain) + impl.Digits(impl.Adler(b))
		for _, list := range slices.Concat(romLists(r), romLists(back)) {
			clear(list)
		}
		clear(b)
		return text
	}
	var told []string
	for i := range 40 {
		told = append(told, ask(i))
	}
	var all sync.WaitGroup
	for range 4 {
		all.Go(func() {
			for i, want := range slices.Backward(told) {
				if got := ask(i); got != want {
					t.Errorf("the %dth is another one", i)
				}
			}
		})
	}
	all.Wait()
}
