package tests

import (
	"math"
	"slices"
	"strings"
	"sync"
	"testing"

	"loop.example/g00481/impl"
)

// Promise 28: a session tells what its lines tell; a line that asks turns nothing.

var (
	allModeWords   = []string{"down", "up", "zero", "even", "away"}
	allPolicyWords = []string{"sat", "error", "wrap"}
	allStatusWords = []string{"ok", "sat", "over", "wrap", "domain", "hard", "bad"}
)

func beginning() impl.Conf {
	f := impl.Fmt{Signed: true, W: 16, F: 12}
	return confOf(f, f, impl.MdEven, impl.PoSat, false)
}

// The document's list, one line behind the other.
func deskTold(c impl.Conf, line string) (impl.Conf, string) {
	if !confOk(c) {
		return c, "bad"
	}
	if line == "" || line[0] == '#' {
		return c, ""
	}
	words := strings.Split(line, " ")
	if text, ok := askedText(c, words); ok {
		return c, text
	}
	if len(words) == 2 {
		if next, ok := turnedConf(c, words[0], words[1]); ok {
			return next, "ok"
		}
	}
	return c, "what"
}

func turnedConf(c impl.Conf, first string, second string) (impl.Conf, bool) {
	f, isFormat := impl.FmtOf(second)
	mode, policy := slices.Index(allModeWords, second), slices.Index(allPolicyWords, second)
	switch {
	case first == "in" && isFormat:
		c.In = f
	case first == "out" && isFormat:
		c.Out = f
	case first == "mode" && mode >= 0:
		c.Mode = mode
	case first == "policy" && policy >= 0:
		c.Policy = policy
	case first == "turns" && (second == "on" || second == "off"):
		c.Turns = second == "on"
	default:
		return c, false
	}
	return c, true
}

func askedText(c impl.Conf, words []string) (string, bool) {
	switch words[0] {
	case "conf":
		angles := map[bool]string{true: "turns", false: "angles"}[c.Turns]
		return nameOf(c.In) + " " + nameOf(c.Out) + " " + allModeWords[c.Mode] + " " + allPolicyWords[c.Policy] + " " + angles, len(words) == 1
	case "bits":
		if len(words) != 2 {
			return "", false
		}
		v, how := impl.Parse(c.In, impl.MdEven, impl.PoError, words[1])
		if how != impl.StOk {
			return allStatusWords[how], true
		}
		return impl.BitsText(c.In, v), true
	case "fast", "both":
		return functionText(c, words[0], words[1:])
	}
	return functionText(c, "", words)
}

func functionText(c impl.Conf, way string, words []string) (string, bool) {
	if len(words) == 0 {
		return "", false
	}
	fn := slices.Index(funNames, words[0])
	if fn < 0 || takesTwo(fn) && len(words) != 3 || !takesTwo(fn) && len(words) != 2 {
		return "", false
	}
	var numbers [2]int
	for i, word := range words[1:] {
		v, how := impl.Parse(c.In, impl.MdEven, impl.PoError, word)
		if how != impl.StOk {
			return allStatusWords[how], true
		}
		numbers[i] = v
	}
	if way == "both" {
		below, above, how := impl.Both(c, fn, numbers[0], numbers[1])
		if how != impl.StOk {
			return allStatusWords[how], true
		}
		return shown(c.Out, below) + " " + shown(c.Out, above), true
	}
	reckon := impl.Eval
	if way == "fast" {
		reckon = impl.Fast
	}
	v, how := reckon(c, fn, numbers[0], numbers[1])
	switch how {
	case impl.StOk:
		return shown(c.Out, v), true
	case impl.StSat, impl.StWrap:
		return shown(c.Out, v) + " " + allStatusWords[how], true
	}
	return allStatusWords[how], true
}

func checkDesk(t *testing.T, c impl.Conf, line string) (impl.Conf, string) {
	t.Helper()
	after, want := deskTold(c, line)
	next, text := impl.DeskLine(c, line)
	if next != after || text != want {
		t.Fatalf("DeskLine(%v, %q) = %v, %q, want %v, %q", c, briefly(line), next, briefly(text), after, briefly(want))
	}
	return next, text
}

func checkTold(t *testing.T, c impl.Conf, line string, want string) {
	t.Helper()
	if next, text := checkDesk(t, c, line); text != want || next != c {
		t.Errorf("%q with %v tells %q, want %q", briefly(line), c, text, want)
	}
}

func TestWordsOfModesPoliciesAndStatuses(t *testing.T) {
	if impl.MaxLines != 60 {
		t.Error("MaxLines", impl.MaxLines)
	}
	for i, word := range allModeWords {
		if impl.ModeOf(word) != i {
			t.Errorf("ModeOf(%q) = %d", word, impl.ModeOf(word))
		}
	}
	for i, word := range allPolicyWords {
		if impl.PolicyOf(word) != i {
			t.Errorf("PolicyOf(%q) = %d", word, impl.PolicyOf(word))
		}
	}
	for i, word := range allStatusWords {
		if impl.StatusText(i) != word {
			t.Errorf("StatusText(%d) = %q", i, impl.StatusText(i))
		}
	}
	for _, how := range []int{math.MinInt, math.MinInt + 1, -7, -2, -1, 7, 8, 1 << 32, 1<<32 + 1, math.MaxInt - 1, math.MaxInt} {
		if text := impl.StatusText(how); text != "" {
			t.Errorf("StatusText(%d) = %q", how, text)
		}
	}
	others := []string{"", " ", "0", "3", "-1", "what", "mode", "downup", "ok", "over", "\x00", "\xff", "é", strings.Repeat("even", 100000)}
	for _, word := range slices.Concat(allModeWords, allPolicyWords, allStatusWords) {
		others = append(others, word, strings.ToUpper(word), strings.ToUpper(word[:1])+word[1:], " "+word, word+" ", word+"\x00", "\x00"+word, word+"\n", word[:len(word)-1], word+word, word[1:])
	}
	for _, s := range others {
		if got := impl.ModeOf(s); got != slices.Index(allModeWords, s) {
			t.Errorf("ModeOf(%q) = %d", briefly(s), got)
		}
		if got := impl.PolicyOf(s); got != slices.Index(allPolicyWords, s) {
			t.Errorf("PolicyOf(%q) = %d", briefly(s), got)
		}
	}
}

func TestDeskLineNamedOnes(t *testing.T) {
	c := beginning()
	for line, want := range map[string]string{
		"sqrt 2.25": "1.5", "div 1 4": "0.25", "mul 4 4": "7.999755859375 sat", "mul 4 -4": "-8 sat", "log 0": "domain", "sin x": "bad", "sin 8": "over", "sin -8": "-0.9892578125", "atan2 0 -1": "3.1416015625",
		"hypot 3 4": "5", "sinh 0": "0", "cosh 0": "1", "tanh 0": "0", "atanh 0": "0", "exp 0": "1", "log 1": "0", "tan 0": "0", "atan 0": "0", "cos 0": "1",
		"sqrt -1": "domain", "div 1 0": "domain", "atan2 0 0": "domain", "atanh 1": "domain",
		"fast sin 0": "0", "fast cos 0": "1", "fast exp 0": "bad", "fast log 0": "bad", "fast atan2 0 0": "domain", "fast atan2 0 -1": "3.1416015625", "fast sin x": "bad", "fast exp 8": "over",
		"both sin 0": "0 0", "both sqrt 2": "1.4140625 1.414306640625", "both mul 4 4": "sat", "both log 0": "domain", "both log x": "bad", "both sin 8": "over", "both div 1 3": "0.333251953125 0.33349609375",
		"bits 1": "0001.000000000000", "bits -1": "1111.000000000000", "bits 8": "over", "bits -8": "1000.000000000000", "bits x": "bad", "bits ": "bad",
		"conf": "Q4.12 Q4.12 even sat angles", "what": "what", "": "", "#": "", "# so": "", "#conf": "", " #": "what", " conf": "what",
		// A number is rounded on its way, to the even one: 1 by 8192 is half a step, 3 by 8192 one and a half.
		"bits 0.0001220703125": "0000.000000000000", "bits 0.0003662109375": "0000.000000000010", "mul 0.0001220703125 1": "0", "mul 0.0003662109375 1": "0.00048828125",
		// The first number that is none tells how.
		"div x 8": "bad", "div 8 x": "over", "div 1 x": "bad", "div x x": "bad", "div 8 8": "over", "mul 1 8": "over", "mul 1 -9": "over", "mul 7.99999 1": "over",
	} {
		next, text := checkDesk(t, c, line)
		if text != want || next != c {
			t.Errorf("%q tells %q, want %q; behind it is %v", line, text, want, next)
		}
	}
}

// The mode and the policy are those of what is answered, not of what comes.
func TestDeskLineReadsByItsOwnWay(t *testing.T) {
	f := impl.Fmt{Signed: true, W: 8, F: 4}
	for _, mode := range allModes {
		for _, policy := range allPolicies {
			c := confOf(f, f, mode, policy, false)
			checkTold(t, c, "bits 0.03125", "0000.0000")
			checkTold(t, c, "bits 0.09375", "0000.0010")
			checkTold(t, c, "bits 0.05", "0000.0001")
			checkTold(t, c, "bits -0.05", "1111.1111")
			for _, line := range []string{"bits 8", "sin 8", "mul 1 8", "mul -9 1", "both sin 8", "fast sin -8.1", "fast exp 8"} {
				checkTold(t, c, line, "over")
			}
		}
	}
}

// Each status, behind a text and alone.
func TestDeskLineTellsStatuses(t *testing.T) {
	c := beginning()
	wrap, over := c, c
	wrap.Policy, over.Policy = impl.PoWrap, impl.PoError
	checkTold(t, c, "mul 2 3", "6")
	checkTold(t, c, "mul 3 3", "7.999755859375 sat")
	checkTold(t, wrap, "mul 3 3", "-7 wrap")
	checkTold(t, over, "mul 3 3", "over")
	checkTold(t, c, "both mul 3 3", "sat")
	checkTold(t, wrap, "both mul 3 3", "wrap")
	checkTold(t, over, "both mul 3 3", "over")
	narrow := confOf(c.In, impl.Fmt{W: 6, F: 4}, impl.MdDown, impl.PoSat, false)
	checkTold(t, narrow, "fast cos 3", "0 sat")
	narrow.Policy = impl.PoWrap
	checkTold(t, narrow, "fast cos 3", "3 wrap")
	narrow.Policy = impl.PoError
	checkTold(t, narrow, "fast cos 3", "over")
	// Too great to be reckoned is not wrapped.
	wide := confOf(impl.Fmt{Signed: true, W: 16, F: 4}, c.Out, impl.MdEven, impl.PoWrap, false)
	checkTold(t, wide, "exp 100", "over")
	wide.Policy = impl.PoSat
	checkTold(t, wide, "exp 100", "7.999755859375 sat")
	checkTold(t, wide, "sinh -100", "-8 sat")
}

// Each function with no number, with one, two and three; alone, and behind fast and both.
func TestDeskLineCountsNumbers(t *testing.T) {
	for _, c := range append(someConfs(), beginning()) {
		for _, name := range append(slices.Clone(funNames), "bits", "conf", "in", "mode", "turns", "fast", "both", "sine", "SIN", "") {
			for _, way := range []string{"", "fast ", "both ", "fast both ", "both fast ", "fast fast ", "both both ", "bits ", "conf ", "in ", " ", "Fast ", "BOTH ", "eval "} {
				for _, numbers := range []string{"", " ", " 0.5", " 0.5 0.25", " 0.5 0.25 0.125", " 0.5 0.25 0.125 0", "  0.5", " 0.5 ", " 0.5  0.25", " x", " 0.5 x", " x 0.5", " 99999", " 0.5 99999", " -0.5", " 0 0", " 0"} {
					next, text := checkDesk(t, c, way+name+numbers)
					if next != c {
						t.Fatalf("%q turned something", way+name+numbers)
					}
					fn := slices.Index(funNames, name)
					taken := strings.Count(numbers, " ")
					fits := fn >= 0 && (taken == 2) == takesTwo(fn) && taken >= 1 && taken <= 2 && slices.Contains([]string{"", "fast ", "both "}, way)
					// A function's name behind bits is a number that is not read.
					if fn >= 0 && way != "bits " && fits == (text == "what") {
						t.Fatalf("%q tells %q", way+name+numbers, text)
					}
				}
			}
		}
		for _, alone := range []string{"fast", "both", "bits", "in", "out", "mode", "policy", "turns", "fast ", "both ", "fast fast", "both both", "fast both", "both fast", "fast conf", "both conf", "fast bits 0", "both bits 0", "fast in Q4.12"} {
			checkTold(t, c, alone, "what")
		}
	}
}

// What turns something turns that alone; conf tells it ahead and behind.
func TestDeskLineTurns(t *testing.T) {
	c := beginning()
	cases := []struct {
		line  string
		after impl.Conf
		conf  string
	}{
		{"in Q6.10", confOf(impl.Fmt{Signed: true, W: 16, F: 10}, c.Out, 3, 0, false), "Q6.10 Q4.12 even sat angles"},
		{"in UQ0.60", confOf(impl.Fmt{W: 60, F: 60}, c.Out, 3, 0, false), "UQ0.60 Q4.12 even sat angles"},
		{"out UQ2.0", confOf(c.In, impl.Fmt{W: 2}, 3, 0, false), "Q4.12 UQ2.0 even sat angles"},
		{"out Q60.0", confOf(c.In, impl.Fmt{Signed: true, W: 60}, 3, 0, false), "Q4.12 Q60.0 even sat angles"},
		{"mode down", rounding(c, 0), "Q4.12 Q4.12 down sat angles"},
		{"mode up", rounding(c, 1), "Q4.12 Q4.12 up sat angles"},
		{"mode zero", rounding(c, 2), "Q4.12 Q4.12 zero sat angles"},
		{"mode even", c, "Q4.12 Q4.12 even sat angles"},
		{"mode away", rounding(c, 4), "Q4.12 Q4.12 away sat angles"},
		{"policy sat", c, "Q4.12 Q4.12 even sat angles"},
		{"policy error", confOf(c.In, c.Out, 3, 1, false), "Q4.12 Q4.12 even error angles"},
		{"policy wrap", confOf(c.In, c.Out, 3, 2, false), "Q4.12 Q4.12 even wrap angles"},
		{"turns on", confOf(c.In, c.Out, 3, 0, true), "Q4.12 Q4.12 even sat turns"},
		{"turns off", c, "Q4.12 Q4.12 even sat angles"},
	}
	for _, row := range cases {
		checkTold(t, c, "conf", "Q4.12 Q4.12 even sat angles")
		next, text := checkDesk(t, c, row.line)
		if next != row.after || text != "ok" {
			t.Errorf("%q: %v, %q", row.line, next, text)
		}
		checkTold(t, next, "conf", row.conf)
		for _, other := range someConfs() {
			checkDesk(t, other, row.line)
		}
	}
	turned := confOf(c.In, c.Out, 3, 0, true)
	if next, text := checkDesk(t, turned, "turns off"); next != c || text != "ok" {
		t.Error("turns off:", next, text)
	}
	if next, text := checkDesk(t, turned, "turns on"); next != turned || text != "ok" {
		t.Error("turns on, twice:", next, text)
	}
}

// Lines that are all but one that turns something.
func TestDeskLineTurnsNothingByOthers(t *testing.T) {
	lines := []string{
		"in", "in ", "in  Q4.12", "in Q4.12 ", " in Q4.12", "in Q4.12 Q4.12", "in q4.12", "IN Q4.12", "in Q4", "in Q04.12", "in Q1.0", "in Q61.0", "in Q0.1", "in UQ61.0", "in even", "in on", "in\tQ4.12", "in Q4.12\n", "in Q4.12\r", "inQ4.12", "out", "out Q", "out Q4.12 x", "Out Q4.12", "output Q4.12",
		"mode", "mode sat", "mode 0", "mode Even", "mode EVEN", "mode even ", "mode even even", "mode down up", "mode  even", "mode Q4.12", "modes even", "mode even\x00", "mode \x00even", "mode\x00even",
		"policy", "policy even", "policy 0", "policy Sat", "policy sat sat", "policy over", "policy ok", "policy sat\x00",
		"turns", "turns ", "turns On", "turns ON", "turns yes", "turns 1", "turns true", "turns on on", "turns  on", "turns on ", "turn on", "turns o", "turns of", "angles on", "angles",
		"conf ", "conf x", " conf", "Conf", "CONF", "confs", "conf\x00", "conf conf", "\x00", "\xff\xfe", "é", " ", "  ", "   ", "?", "help", "quit", "0", "1.5", "-", " # so", "\t# so", "\x00#", "//", ";",
		"sin\t1", "sin 1\n", "sin 1\r", "sin,1", "sin(1)", "Sin 1", "SIN 1", "sin\x00 1", "\x00sin 1", "sinus 1", "atan3 1 1", "-1 -1",
	}
	for _, c := range append(someConfs(), beginning()) {
		for _, line := range lines {
			if next, text := checkDesk(t, c, line); next != c || text == "ok" {
				t.Errorf("%q with %v: %v, %q", line, c, next, text)
			}
		}
	}
	for _, line := range lines {
		if strings.Contains(line, "sin 1") {
			continue
		}
		checkTold(t, beginning(), line, "what")
	}
	// What stands behind a number makes it none.
	for _, line := range []string{"sin 1\n", "sin 1\r", "sin 1\x00", "sin \x001", "sin \xff", "sin +1", "sin 1e0", "sin 0x1", "sin 01", "sin 1.", "sin .1", "sin ", "sin --1", "sin é"} {
		checkTold(t, beginning(), line, "bad")
	}
}

func TestDeskLineOfABadConf(t *testing.T) {
	for _, c := range badConfs() {
		for _, line := range []string{"", "#", "# so", "conf", "in Q4.12", "out Q4.12", "mode even", "policy sat", "turns on", "sin 0", "fast sin 0", "both sin 0", "bits 0", "what", " ", "\x00", strings.Repeat("x ", 1000)} {
			next, text := impl.DeskLine(c, line)
			if next != c || text != "bad" {
				t.Errorf("%q with %v: %v, %q", briefly(line), c, next, text)
			}
		}
	}
}

// A line that asks turns nothing, whatever it asks.
func TestLinesThatAskTurnNothing(t *testing.T) {
	t.Parallel()
	m := &mixer{state: 28282828}
	for range 1500 {
		c := someConfs()[m.below(5)]
		line := deskWords[m.below(len(deskWords))]
		for range m.below(4) {
			line += " " + deskWords[m.below(len(deskWords))]
		}
		next, text := checkDesk(t, c, line)
		if (next != c) && text != "ok" {
			t.Fatalf("%q tells %q and turns something", line, text)
		}
		if text == "ok" && !slices.Contains([]string{"in", "out", "mode", "policy", "turns"}, strings.Split(line, " ")[0]) {
			t.Fatalf("%q turns something", line)
		}
	}
}

var deskWords = []string{"in", "out", "mode", "policy", "turns", "on", "off", "Q4.12", "UQ2.6", "Q1.58", "Q9.0", "even", "down", "sat", "wrap", "error", "fast", "both", "bits", "conf", "sin", "cos", "mul", "div", "atan2", "exp", "log", "sqrt", "0", "1", "-1", "0.5", "3.14159", "7.9999999", "100000", "x", "", "#", "what"}

func sessionTold(lines string) (string, int) {
	list := strings.Split(lines, "\n")
	if list[len(list)-1] == "" {
		list = list[:len(list)-1]
	}
	if len(list) > 60 {
		return "", -2
	}
	c, out := beginning(), ""
	for _, line := range list {
		text := ""
		c, text = impl.DeskLine(c, line)
		if text != "" {
			out += text + "\n"
		}
	}
	return out, len(list)
}

func checkSession(t *testing.T, lines string) (string, int) {
	t.Helper()
	want, count := sessionTold(lines)
	text, n := impl.Session(lines)
	if text != want || n != count {
		t.Fatalf("Session(%q) = %q, %d, want %q, %d", briefly(lines), briefly(text), n, briefly(want), count)
	}
	return text, n
}

func TestSessionNamedOnes(t *testing.T) {
	cases := []struct {
		lines, want string
		count       int
	}{
		{"", "", 0}, {"\n", "", 1}, {"\n\n", "", 2}, {"#", "", 1}, {"# so\n", "", 1}, {"\n#\n\n", "", 3}, {" ", "what\n", 1}, {"\r\n", "what\n", 1},
		{"conf", "Q4.12 Q4.12 even sat angles\n", 1}, {"conf\n", "Q4.12 Q4.12 even sat angles\n", 1}, {"conf\n\n", "Q4.12 Q4.12 even sat angles\n", 2}, {"\nconf", "Q4.12 Q4.12 even sat angles\n", 2},
		{"turns on\nsin 0.25\nturns off\nsin 0", "ok\n1\nok\n0\n", 4},
		// One number behind two: nothing is left of the line ahead.
		{"mul 2 3\nsqrt 4\nfast sin 0\nmul 2 x\nexp 0", "6\n2\n0\nbad\n1\n", 5},
		{"out Q1.7\nexp 0\npolicy wrap\nexp 0\npolicy error\nexp 0\nout Q4.4\nconf", "ok\n0.9921875 sat\nok\n-1 wrap\nok\nover\nok\nQ4.12 Q4.4 even error angles\n", 8},
		{"mode down\nwhat\nmode x\n# mode up\nconf\nmode up\nconf", "ok\nwhat\nwhat\nQ4.12 Q4.12 down sat angles\nok\nQ4.12 Q4.12 up sat angles\n", 7},
	}
	for _, c := range cases {
		if text, n := checkSession(t, c.lines); text != c.want || n != c.count {
			t.Errorf("Session(%q) = %q, %d, want %q, %d", c.lines, text, n, c.want, c.count)
		}
	}
}

func TestSessionCountsLines(t *testing.T) {
	for _, line := range []string{"", "#", "conf", "what", "mode up", " "} {
		told := ""
		if line != "" && line != "#" {
			_, text := impl.DeskLine(beginning(), line)
			told = text + "\n"
		}
		for _, n := range []int{1, 2, 59, 60} {
			lines := strings.Repeat(line+"\n", n)
			text, count := checkSession(t, lines)
			if line != "mode up" && (count != n || text != strings.Repeat(told, n)) {
				t.Errorf("%d lines of %q: %q, %d", n, line, briefly(text), count)
			}
			// Without a byte 10 behind it the last line is one, too, where it is not empty.
			last := n
			if line == "" {
				last--
			}
			if _, count := checkSession(t, lines[:len(lines)-1]); count != last {
				t.Errorf("%d lines of %q without an end: %d", n, line, count)
			}
		}
		for _, lines := range []string{strings.Repeat(line+"\n", 61), strings.Repeat(line+"\n", 60) + "conf", strings.Repeat(line+"\n", 60) + "#", strings.Repeat(line+"\n", 60) + "\n", strings.Repeat(line+"\n", 100000)} {
			if text, count := checkSession(t, lines); text != "" || count != -2 {
				t.Errorf("too many lines of %q: %q, %d", line, briefly(text), count)
			}
		}
	}
}

// A session tells what its lines tell, one behind the other.
func TestSessionTellsWhatItsLinesTell(t *testing.T) {
	t.Parallel()
	m := &mixer{state: 82828282}
	for range 150 {
		var lines []string
		for range m.below(62) {
			line := deskWords[m.below(len(deskWords))]
			for range m.below(3) {
				line += " " + deskWords[m.below(len(deskWords))]
			}
			lines = append(lines, line)
		}
		all := strings.Join(lines, "\n")
		checkSession(t, all)
		checkSession(t, all+"\n")
	}
}

// Promise 29: every function answers at any arguments; what was answered once is answered again.

func TestDeskAnswersAtAnything(t *testing.T) {
	t.Parallel()
	defer mustNotPanic(t)
	m := &mixer{state: 38383838}
	for range 20000 {
		line := make([]byte, m.below(12))
		for i := range line {
			line[i] = byte(m.next() >> m.below(8))
			if m.below(4) == 0 {
				line[i] = []byte(" #\n.-01")[m.below(7)]
			}
		}
		checkDesk(t, someConfs()[m.below(5)], string(line))
		checkSession(t, string(line))
	}
	long := strings.Repeat("1", 1<<20)
	for _, line := range []string{long, "sin " + long, "bits -" + long, "in Q" + long, "fast sin " + long, "mul 1 " + long, strings.Repeat(" ", 1<<16), "sin" + strings.Repeat(" 1", 1<<16), "# " + long, strings.Repeat("sin ", 1<<16), "bits 0." + long, "bits 0." + strings.Repeat("1", 80), "bits 0." + strings.Repeat("1", 81)} {
		checkDesk(t, beginning(), line)
		checkSession(t, line+"\n"+line)
	}
	for _, n := range []int{math.MinInt, -1, 7, math.MaxInt} {
		impl.StatusText(n)
	}
}

// In another order, and by many at once.
func TestDeskIsAnsweredAgain(t *testing.T) {
	ask := func(i int) string {
		word := deskWords[i%len(deskWords)]
		_, text := impl.DeskLine(someConfs()[i%5], word+" 0.5")
		all, n := impl.Session("in Q8.8\n" + word + " 1\nmode up\n" + word + " 0.5 0.25\nconf")
		return text + all + impl.Digits(n)
	}
	var told []string
	for i := range 2 * len(deskWords) {
		told = append(told, ask(i))
	}
	var all sync.WaitGroup
	for range 4 {
		all.Go(func() {
			for i, want := range slices.Backward(told) {
				if got := ask(i); got != want {
					t.Errorf("the %dth: %q, and was %q", i, got, want)
				}
			}
		})
	}
	all.Wait()
}
