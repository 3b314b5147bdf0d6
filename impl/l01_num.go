package impl

import (
	"errors"
	"strconv"
	"strings"
)

const (
	maxNumber = 999999
	maxPut    = 2147483647
	// Five groups of seven bits hold maxPut; a sixth byte can only be one too many.
	maxPutShift = 28
)

// What is no number is told by a panic with this; Number and GetNum recover it.
var errNoNumber = errors.New("no number")

func Digits(n int) string { return strconv.Itoa(n) }

func Number(s string) (n int, ok bool) {
	defer func() {
		if recover() != nil {
			n, ok = 0, false
		}
	}()
	return readDigits(s), true
}

func readDigits(s string) int {
	if s == "" || s[0] == '0' && len(s) > 1 {
		panic(errNoNumber)
	}
	n := 0
	for i := 0; i < len(s); i++ {
		n = n*10 + digitAt(s, i)
		// Asked at every digit: a long text would overflow before its end.
		if n > maxNumber {
			panic(errNoNumber)
		}
	}
	return n
}

func digitAt(s string, i int) int {
	if s[i] < '0' || s[i] > '9' {
		panic(errNoNumber)
	}
	return int(s[i] - '0')
}

func PutNum(n int) []byte {
	if n < 0 || n > maxPut {
		return nil
	}
	var b []byte
	for n > 127 {
		b = append(b, byte(128+n%128))
		n /= 128
	}
	return append(b, byte(n))
}

func GetNum(b []byte, at int) (n int, next int, ok bool) {
	defer func() {
		if recover() != nil {
			n, next, ok = 0, 0, false
		}
	}()
	n, next = readGroups(b, at)
	return n, next, true
}

func readGroups(b []byte, at int) (int, int) {
	n, place := 0, at
	for shift := 0; shift <= maxPutShift; shift += 7 {
		group := groupAt(b, place)
		place++
		n += (group % 128) << shift
		if group < 128 {
			checkGroups(n, group, shift)
			return n, place
		}
	}
	panic(errNoNumber)
}

func groupAt(b []byte, place int) int {
	if place < 0 || place >= len(b) {
		panic(errNoNumber)
	}
	return int(b[place])
}

// A last group of 0 adds nothing, so the number could have been written shorter; only 0 itself needs it.
func checkGroups(n int, last int, shift int) {
	if n > maxPut || last == 0 && shift > 0 {
		panic(errNoNumber)
	}
}

// The parts are cloned so that they share no memory with s.
func Parts(s string, by byte) []string {
	var parts []string
	from := 0
	for i := 0; i < len(s); i++ {
		if s[i] == by {
			parts = append(parts, strings.Clone(s[from:i]))
			from = i + 1
		}
	}
	return append(parts, strings.Clone(s[from:]))
}
