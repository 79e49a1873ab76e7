package tests

import (
	"fmt"
	"math"
	"reflect"
	"regexp"
	"runtime"
	"slices"
	"strconv"
	"strings"
	"testing"
	"testing/synctest"

	"loop.example/g00189/impl"
)

const (
	mostLines   = 60
	mostNumeral = 999999999
)

// A line of a deed, and one of those that ask by a number.
var (
	deedPattern = regexp.MustCompile(`\A(step|show|give|copy|lose) (0|[1-9][0-9]{0,8})(?: (0|[1-9][0-9]{0,8}))?\z`)
	askPattern  = regexp.MustCompile(`\A(out|where) (0|[1-9][0-9]{0,8})\z`)
)

func deedNames() []string { return words("step", "show", "give", "copy", "lose") }

func codeNames() []string { return words("ok", "bad", "none", "wait", "end", "full") }

// lineByRules: the line of a deed, as the chapter has it.
func lineByRules(d impl.Deed) (string, bool) {
	if !deedByRules(d) || d.A > mostNumeral || d.B > mostNumeral {
		return "", false
	}
	if d.Kind <= 2 {
		return fmt.Sprintf("%s %d %d", deedNames()[d.Kind-1], d.A, d.B), true
	}
	return fmt.Sprintf("%s %d", deedNames()[d.Kind-1], d.A), true
}

// parsedByRules: the deed of a line, by its pattern.
func parsedByRules(line string) (impl.Deed, bool) {
	part := deedPattern.FindStringSubmatch(line)
	if part == nil {
		return impl.Deed{}, false
	}
	d := impl.Deed{Kind: 1 + slices.Index(deedNames(), part[1])}
	if (d.Kind <= 2) != (part[3] != "") {
		return impl.Deed{}, false
	}
	d.A, _ = strconv.Atoi(part[2])
	d.B, _ = strconv.Atoi(part[3])
	if !deedByRules(d) {
		return impl.Deed{}, false
	}
	return d, true
}

// heardByRules: the world behind a line and what it tells, case by case.
func heardByRules(w impl.World, line string) (impl.World, string) {
	switch {
	case !worldByRules(w):
		return w, "bad"
	case line == "" || line[0] == ';':
		return w, ""
	case line == "judge" && verdictByRules(w) == fair():
		return w, "yes"
	case line == "judge":
		return w, "no"
	case line == "round":
		return roundByRules(w), "ok"
	}
	if part := askPattern.FindStringSubmatch(line); part != nil {
		pid, _ := strconv.Atoi(part[2])
		return w, askedByRules(w, part[1], pid)
	}
	d, ok := parsedByRules(line)
	if !ok {
		return w, "what"
	}
	next, code := deedDoneByRules(w, d)
	return next, codeNames()[code]
}

func askedByRules(w impl.World, what string, pid int) string {
	home, at := homeByRules(w, pid), whereByRules(w, pid)
	switch {
	case what == "out" && home >= 0:
		return outByRules(w.Homes[home].P.Out)
	case what == "where" && at >= 0:
		return fmt.Sprint(at)
	}
	return "none"
}

// outByRules: text by text, with a blank ahead of each but the first; what has no byte then is told as none.
func outByRules(out []string) string {
	told := ""
	for i, text := range out {
		if i > 0 {
			told += " "
		}
		told += text
	}
	if len(told) == 0 {
		return "none"
	}
	return told
}

// linesByRules: what stands ahead of each byte 10, and the rest, where there is some.
func linesByRules(lines string) []string {
	list := strings.Split(lines, "\n")
	if list[len(list)-1] == "" {
		list = list[:len(list)-1]
	}
	return list
}

// sessionByRules: line by line from the new world on; each is asked of WorldLine, or of the rules.
func sessionByRules(text string, places int, lines string, hear func(w impl.World, line string) (impl.World, string)) (string, int) {
	p, list, how, _ := impl.Read(impl.Pool{}, text)
	c, made, _ := impl.Compile(p, list)
	w, ok := impl.WorldNew(c, places)
	all := linesByRules(lines)
	switch {
	case how != impl.RdDone || made != impl.CpDone || !ok:
		return "", -1
	case len(all) > 60:
		return "", -2
	}
	told := ""
	for _, line := range all {
		var said string
		if w, said = hear(w, line); said != "" {
			told += said + "\n"
		}
	}
	return told, len(all)
}

// askLineOf asks for the line of a deed; and that the rules tell so, too.
func askLineOf(t *testing.T, why string, d impl.Deed, want string, done bool) {
	t.Helper()
	if got, ok := impl.DeedLine(d); got != want || ok != done {
		t.Errorf("%s: DeedLine of %+v tells %q, %v, not %q, %v", why, d, got, ok, want, done)
	}
	if by, ok := lineByRules(d); by != want || ok != done {
		t.Errorf("%s: the rules tell of %+v %q, %v, not %q, %v", why, d, by, ok, want, done)
	}
}

// askParse asks for the deed of a line; and that the rules tell so, too.
func askParse(t *testing.T, why string, line string, want impl.Deed, done bool) {
	t.Helper()
	if got, ok := impl.DeedParse(line); got != want || ok != done {
		t.Errorf("%s: DeedParse of %.200q tells %+v, %v, not %+v, %v", why, line, got, ok, want, done)
	}
	if by, ok := parsedByRules(line); by != want || ok != done {
		t.Errorf("%s: the rules tell of %.200q %+v, %v, not %+v, %v", why, line, by, ok, want, done)
	}
}

func askNoParse(t *testing.T, why string, line string) {
	t.Helper()
	askParse(t, why, line, impl.Deed{}, false)
}

// askParseByRules tells whether there is a deed; and asks that its line is what was read.
func askParseByRules(t *testing.T, why string, line string) bool {
	t.Helper()
	want, done := parsedByRules(line)
	askParse(t, why, line, want, done)
	if back, ok := impl.DeedLine(want); done && (back != line || !ok) {
		t.Errorf("%s: %q is read, and written as %q, %v", why, line, back, ok)
	}
	return done
}

// askHeard asks what a line tells, and what the world is then; and that the rules tell so, too.
func askHeard(t *testing.T, why string, w impl.World, line string, want impl.World, said string) {
	t.Helper()
	if got, told := impl.WorldLine(w, line); told != said || !sameWorld(got, want) {
		t.Errorf("%s: %.200q tells %q, %s\nnot %q, %s\nof %s", why, line, told, toldWorld(got), said, toldWorld(want), toldWorld(w))
	}
	if by, told := heardByRules(w, line); told != said || !sameWorld(by, want) {
		t.Errorf("%s: the rules tell of %.200q %q, %s\nnot %q, %s", why, line, told, toldWorld(by), said, toldWorld(want))
	}
}

// askTold: the line tells this, and changes nothing.
func askTold(t *testing.T, why string, w impl.World, line string, said string) {
	t.Helper()
	askHeard(t, why, w, line, w, said)
}

func askSession(t *testing.T, why string, text string, places int, lines string, want string, count int) {
	t.Helper()
	if got, n := impl.Session(text, places, lines); got != want || n != count {
		t.Errorf("%s: a session of %.200q, of %d, with %.300q tells %q, %d, not %q, %d", why, text, places, lines, got, n, want, count)
	}
}

func TestDeskNumbers(t *testing.T) {
	if impl.MaxLines != mostLines {
		t.Error("MaxLines", impl.MaxLines)
	}
}

func TestDeedLine(t *testing.T) {
	for _, x := range []struct {
		d    impl.Deed
		want string
	}{
		{stepOf(0, 0), "step 0 0"},
		{stepOf(1, 0), "step 1 0"},
		{stepOf(12, 50), "step 12 50"},
		{stepOf(999999999, 9), "step 999999999 9"},
		{showOf(1, 2), "show 1 2"},
		{showOf(0, 0), "show 0 0"},
		{showOf(10, 999999999), "show 10 999999999"},
		{showOf(999999999, 51), "show 999999999 51"},
		{giveOf(0), "give 0"},
		{giveOf(100), "give 100"},
		{giveOf(999999999), "give 999999999"},
		{copyGram(7), "copy 7"},
		{copyGram(123456789), "copy 123456789"},
		{loseOf(4), "lose 4"},
		{loseOf(60), "lose 60"},
	} {
		askLineOf(t, "a line", x.d, x.want, true)
		askParse(t, "a deed", x.want, x.d, true)
	}
	for why, d := range map[string]impl.Deed{
		"no kind":                 {},
		"no kind, with numbers":   {A: 1, B: 1},
		"a kind too low":          {Kind: -1, A: 1},
		"a kind too high":         {Kind: 6, A: 1},
		"a kind that asks":        {Kind: 7},
		"another one":             {Kind: 8, A: 1},
		"and another one":         {Kind: 9, A: 1},
		"the greatest kind":       {Kind: math.MaxInt},
		"the least kind":          {Kind: math.MinInt},
		"too many steps":          stepOf(1, 51),
		"steps below nought":      stepOf(1, -1),
		"a pid below nought":      stepOf(-1, 0),
		"a pid of ten digits":     stepOf(1000000000, 0),
		"a place below nought":    showOf(-1, 0),
		"another such":            showOf(0, -1),
		"a place of ten digits":   showOf(1000000000, 0),
		"another of ten digits":   showOf(0, 1000000000),
		"the greatest place":      showOf(0, math.MaxInt),
		"the greatest pid":        stepOf(math.MaxInt, 0),
		"the least pid":           stepOf(math.MinInt, 0),
		"a gram with more":        {Kind: 3, A: 1, B: 1},
		"a copy with more":        {Kind: 4, A: 1, B: 1},
		"a loss with more":        {Kind: 5, A: 1, B: 1},
		"a gram with less":        {Kind: 3, A: 1, B: -1},
		"a gram below nought":     giveOf(-1),
		"a copy below nought":     copyGram(-1),
		"a loss below nought":     loseOf(math.MinInt),
		"a gram of ten digits":    giveOf(1000000000),
		"a copy of ten digits":    copyGram(1000000000),
		"a loss of ten digits":    loseOf(1234567890),
		"the greatest gram":       loseOf(math.MaxInt),
		"a gram beyond 32 digits": giveOf(1<<32 + 1),
	} {
		askLineOf(t, why, d, "", false)
	}
}

// someNumbers: at the limits of what a line, a deed or an int may have, and between them.
func someNumbers() []int {
	list := []int{math.MinInt, -1 << 32, -1 << 31, -10, -1, 0, 1, 2, 9, 10, 11, 48, 49, 50, 51, 99, 100, 255, 256, 1<<32 + 1, math.MaxInt}
	for power := 100; power <= 10000000000; power *= 10 {
		list = append(list, power-1, power, power+1)
	}
	return list
}

// Promise 17: every deed that has a line is read from it as it was.
func TestDeedsAreReadFromTheirLines(t *testing.T) {
	lines := map[string]impl.Deed{}
	ask := func(d impl.Deed) {
		line, ok := lineByRules(d)
		askLineOf(t, "by rules", d, line, ok)
		if !ok {
			return
		}
		askParse(t, "read again", line, d, true)
		if other, known := lines[line]; known && other != d {
			t.Errorf("%q is the line of %+v and of %+v", line, d, other)
		}
		lines[line] = d
	}
	for kind := -3; kind <= 12; kind++ {
		for _, a := range someNumbers() {
			for _, b := range someNumbers() {
				ask(impl.Deed{Kind: kind, A: a, B: b})
			}
		}
		for a := -2; a <= 120; a++ {
			for b := -2; b <= 60; b++ {
				ask(impl.Deed{Kind: kind, A: a, B: b})
			}
		}
	}
	r := &aRandom{x: 1701}
	for range 20000 {
		d := impl.Deed{Kind: 1 + r.below(5), A: int(r.x >> (1 + r.below(60)))}
		if d.Kind <= 2 {
			d.B = r.below(1 << r.below(40))
		}
		ask(d)
	}
	kinds := tally{}
	for _, d := range lines {
		kinds[fmt.Sprint(d.Kind)]++
	}
	kinds.least(t, map[string]int{"1": 6000, "2": 8000, "3": 900, "4": 900, "5": 900})
}

// noLines are what is no line of a deed.
func noLines() map[string]string {
	list := map[string]string{
		"nothing": "", "a blank": " ", "a remark": ";", "the other words": "judge", "another one": "round",
		"what asks": "out 1", "what asks, too": "where 1", "a number alone": "1", "two numbers": "1 2",
		"no word": "fly 1", "no word with two": "fly 1 2", "steps of one too many": "step 1 51", "of many more": "step 1 999999999",
		"a blank at first": " 1", "a blank and two": " 1 2",
	}
	for i, word := range deedNames() {
		rest := words(" 1 2", " 1 2", " 1", " 1", " 1")[i]
		for why, line := range map[string]string{
			"alone":                  word,
			"with a blank alone":     word + " ",
			"with one more":          word + rest + " 3",
			"with two more":          word + rest + " 3 4",
			"a blank ahead":          " " + word + rest,
			"a blank behind":         word + rest + " ",
			"two blanks":             word + " " + rest,
			"two blanks at the end":  word + rest[:len(rest)-2] + " " + rest[len(rest)-2:],
			"a tab":                  word + strings.Replace(rest, " ", "\t", 1),
			"a byte 13 at the end":   word + rest + "\r",
			"a byte 10 at the end":   word + rest + "\n",
			"a byte 10 ahead":        "\n" + word + rest,
			"a byte 10 for a blank":  word + strings.Replace(rest, " ", "\n", 1),
			"a byte 0 at the end":    word + rest + "\x00",
			"a byte 0 at first":      "\x00" + word + rest,
			"a byte 128":             word + rest + "\x80",
			"a wide blank":           word + strings.Replace(rest, " ", "\u00a0", 1),
			"wide digits":            word + rest[:len(rest)-1] + "\u0661",
			"capitals":               strings.ToUpper(word) + rest,
			"one capital":            strings.ToUpper(word[:1]) + word[1:] + rest,
			"its beginning":          word[:3] + rest,
			"its end":                word[1:] + rest,
			"more behind it":         word + "s" + rest,
			"twice":                  word + word + rest,
			"no blank":               word + strings.Replace(rest, " ", "", 1),
			"two noughts":            word + rest[:len(rest)-1] + "00",
			"a nought ahead":         word + rest[:len(rest)-1] + "01",
			"a nought ahead of all":  word + " 0" + rest[1:],
			"a plus":                 word + rest[:len(rest)-1] + "+1",
			"a minus":                word + rest[:len(rest)-1] + "-1",
			"a minus and nought":     word + rest[:len(rest)-1] + "-0",
			"a sign alone":           word + rest[:len(rest)-1] + "-",
			"ten digits":             word + " 1000000000" + rest[2:],
			"ten digits at the end":  word + rest[:len(rest)-1] + "1234567890",
			"beyond 32 bits":         word + " 4294967297" + rest[2:],
			"beyond 64 bits":         word + " 18446744073709551617" + rest[2:],
			"far beyond any int":     word + rest[:len(rest)-1] + strings.Repeat("9", 40),
			"noughts of ten digits":  word + rest[:len(rest)-1] + "0000000001",
			"a digit and more":       word + rest + "x",
			"sixteens":               word + rest[:len(rest)-1] + "0x1",
			"a line between digits":  word + rest[:len(rest)-1] + "1_0",
			"a fraction":             word + rest[:len(rest)-1] + "1.0",
			"a remark behind":        word + rest + ";",
			"a remark ahead":         ";" + word + rest,
			"in brackets":            "(" + word + rest + ")",
			"the line twice":         word + rest + " " + word + rest,
			"the line twice, by row": word + rest + "\n" + word + rest,
		} {
			list[word+", "+why] = line
		}
	}
	list["step with one"], list["show with one"] = "step 1", "show 0"
	list["step with one and a blank"], list["show with one and a blank"] = "step 1 ", "show 0 "
	list["give with two"], list["copy with two"], list["lose with two"] = "give 1 0", "copy 1 2", "lose 0 0"
	return list
}

func TestDeedParseOfWhatIsNoLine(t *testing.T) {
	for why, line := range noLines() {
		askNoParse(t, why, line)
	}
}

func TestDeedParseOfNumbers(t *testing.T) {
	for text, n := range map[string]int{"0": 0, "1": 1, "9": 9, "10": 10, "50": 50, "99": 99, "100": 100, "90000000": 90000000, "99999999": 99999999, "100000000": 100000000, "999999999": 999999999} {
		askParse(t, "a pid", "step "+text+" 7", stepOf(n, 7), true)
		askParse(t, "a place", "show "+text+" 7", showOf(n, 7), true)
		askParse(t, "another place", "show 7 "+text, showOf(7, n), true)
		askParse(t, "two places", "show "+text+" "+text, showOf(n, n), true)
		askParse(t, "a gram", "give "+text, giveOf(n), true)
		askParse(t, "a gram", "copy "+text, copyGram(n), true)
		askParse(t, "a gram", "lose "+text, loseOf(n), true)
		askParseByRules(t, "steps", "step 7 "+text)
	}
	for _, text := range words("", "00", "01", "007", "000000000", "0000000000", "012345678", "-0", "-1", "+0", "+1", "1000000000", "9999999999", "9223372036854775807", "9223372036854775808", "-9223372036854775808", "18446744073709551616", "18446744073709551617", "99999999999999999999999", "0x1", "0b1", "0o7", "1e1", "1.0", ".5", "1_0", "_1", "1,0", "a", "1a", "a1", "\u0661", "\uff11", "#pid1", "'1", "nan", "inf") {
		for _, line := range words("give "+text, "copy "+text, "lose "+text, "step "+text+" 1", "step 1 "+text, "show "+text+" 1", "show 1 "+text, "show "+text+" "+text) {
			askNoParse(t, "no number", line)
		}
	}
	for b := range 120 {
		if askParseByRules(t, "steps", fmt.Sprint("step 1 ", b)) != (b <= 50) {
			t.Error("so many steps", b)
		}
	}
}

// Of each byte that is turned, taken away or put in.
func TestDeedParseOfTurnedLines(t *testing.T) {
	right, wrong := 0, 0
	count := func(line string) {
		if askParseByRules(t, "turned", line) {
			right++
		} else {
			wrong++
		}
	}
	for _, line := range words("step 1 50", "step 10 0", "show 1 2", "show 999999999 123456789", "give 0", "copy 40", "lose 123456789", "judge", "round", "out 1", "where 10") {
		for at := range len(line) + 1 {
			count(line[:at])
			count(line[at:])
			for b := range 256 {
				count(line[:at] + string([]byte{byte(b)}) + line[at:])
				if at < len(line) {
					count(line[:at] + string([]byte{byte(b)}) + line[at+1:])
				}
			}
			for end := at; end <= len(line); end++ {
				count(line[:at] + line[end:])
				count(line[:end] + line[at:])
			}
		}
	}
	if right < 300 || wrong < 30000 {
		t.Error("so many lines were right, and were not", right, wrong)
	}
}

// someLine: one of pieces that lines have, which may be a line of a deed, or close to it.
func (r *aRandom) someLine() string {
	numbers := words("0", "1", "2", "3", "50", "51", "7", "00", "01", "-1", "+2", "999999999", "1000000000", "", "x", "9")
	pick := func(list []string) string { return list[r.below(len(list))] }
	number := func() string { return pick(numbers[:1+r.below(len(numbers))]) }
	line := pick(append(deedNames(), "judge", "round", "out", "where", "out", "where", ";", "what", ""))
	for count := words("", "1", "11", "1", "11", "111")[r.below(6)]; count != ""; count = count[1:] {
		line += " " + number()
	}
	if r.below(9) == 0 {
		line = pick(words(" ", "\t", ";", "\r", "s", "\x00")) + line
	}
	if r.below(9) == 0 {
		line += pick(words(" ", "\t", ";", "\r", "s", "\x00", "\xff"))
	}
	if r.below(12) == 0 {
		line = strings.Replace(line, " ", pick(words("  ", "", "\t", "\u3000")), 1)
	}
	return line
}

func TestDeedParseOfAnyLines(t *testing.T) {
	r := &aRandom{x: 1702}
	right, wrong := 0, 0
	for range 60000 {
		if askParseByRules(t, "any", r.someLine()) {
			right++
		} else {
			wrong++
		}
	}
	if right < 3000 || wrong < 20000 {
		t.Error("so many lines were right, and were not", right, wrong)
	}
}

// longLines are such as have more in them than any line.
func longLines() []string {
	var list []string
	for _, part := range words("1", "0", " ", "9", " 1", " 0", "step ", "step 1 2", "give 1", "x", "\x00", "\xff", "-", "1 ") {
		long := strings.Repeat(part, 1<<20/len(part))
		for _, word := range deedNames() {
			list = append(list, word+long, word+" "+long, word+" 1 "+long, word+" 1"+long, long+word+" 1 1", word+" 1 1"+long, word+" "+long+" 1")
		}
		list = append(list, long, "out "+long, "where "+long, "out 1"+long, "judge"+long, "round"+long, long+"judge")
	}
	return list
}

func TestLongLines(t *testing.T) {
	w := busyWorld(2)
	for _, line := range longLines() {
		if d, ok := impl.DeedParse(line); ok || d != (impl.Deed{}) {
			t.Errorf("a long line of %.20q tells %+v, %v", line, d, ok)
		}
		if got, said := impl.WorldLine(w, line); said != "what" || !sameWorld(got, w) {
			t.Errorf("a long line of %.20q tells %q", line, said)
		}
	}
	remark := ";" + strings.Repeat(" judge", 1<<18)
	askTold(t, "a long remark", w, remark, "")
	askSession(t, "a long remark", "(print 1)", 1, remark+"\nround\n"+remark+"\nout 1\n"+remark, "ok\n1\n", 5)
	askSession(t, "a long line", "(print 1)", 1, strings.Repeat("round ", 1<<18)+"\nround", "what\nok\n", 2)
}

// A world that is not right tells `bad` of whatever line, ahead of all else.
func TestLinesToWorldsThatAreNotRight(t *testing.T) {
	t.Parallel()
	lines := append(words("", ";", "; x", "judge", "round", "out 1", "where 1", "out 0", "step 1 0", "step 1 51", "show 0 1", "give 0", "copy 0", "lose 0", "what", "bad", " ", "judge ", "out 01", "\x00", "give 99"), strings.Repeat("x", 9999))
	ask := func(why string, w impl.World, most int) {
		for _, line := range lines[:most] {
			askTold(t, why, w, line, "bad")
		}
	}
	ask("zero", impl.World{}, len(lines))
	for why, turn := range soundBut() {
		for places := 1; places <= mostPlaces; places++ {
			ask(why, turnedWorld(fairWorld(places), turn), 9)
		}
	}
	for why, c := range brokenCodes() {
		ask(why, turnedWorld(busyWorld(2), func(w *impl.World) { w.Code = c }), len(lines))
	}
	n := tally{}
	eachTurned(func(why string, w impl.World, right bool) {
		n[fmt.Sprint(right)]++
		if line := lines[n["false"]%len(lines)]; right {
			askTold(t, why, w, "what", "what")
		} else {
			askTold(t, why+", "+line, w, line, "bad")
		}
	})
	n.least(t, map[string]int{"true": 50, "false": 100})
}

func TestLinesThatTellNothing(t *testing.T) {
	for why, w := range rightWorlds() {
		for _, line := range words("", ";", ";;", "; x", ";judge", "; round", ";\n", ";\x00", ";\xff", "; step 1 0", ";out 1") {
			askTold(t, why, w, line, "")
		}
		// One with a blank ahead of it is no remark.
		for _, line := range words(" ;", " ", "  ", "\t;", "x;", "\x00", "\n", "\r", "\ufeff;", "\uff1b") {
			askTold(t, why, w, line, "what")
		}
	}
}

func TestLinesThatAreNone(t *testing.T) {
	w := busyWorld(3)
	for why, line := range noLines() {
		switch line {
		case "", ";", "judge", "round", "out 1", "where 1":
			continue
		}
		said := "what"
		if line[0] == ';' {
			said = ""
		}
		askTold(t, why, w, line, said)
	}
	for _, word := range words("judge", "round", "out", "where") {
		for _, line := range []string{
			word + " ", " " + word, word + "\n", word + "\r", word + "\t", word + ";", word + " x", word + word, word + " " + word,
			word + " 1 ", word + " 1 1", word + "  1", word + " 1 0", word + "1", word + "\t1", word + " 01", word + " 00", word + " +1", word + " -1",
			word + " 1000000000", word + " 18446744073709551617", word + " 1x", word + " x", word + " ;", word + " 1;", word + " 1\n", word + " 1\r", word + " 1\x00",
			strings.ToUpper(word), strings.ToUpper(word) + " 1", strings.ToUpper(word[:1]) + word[1:] + " 1", word[:2], word[:2] + " 1", word[1:], word + "s", word + "s 1", word + ": 1", "; " + word,
		} {
			said := "what"
			if line[0] == ';' {
				said = ""
			}
			askTold(t, "behind and ahead of a word", w, line, said)
		}
	}
	for _, line := range words("judge 1", "judge 0", "round 1", "round 0", "out", "where", "yes", "ok", "help", "what", "none", "run 1", "days 1", "1", "(judge)", "step", "step 1") {
		askTold(t, "no line", w, line, "what")
	}
}

func TestJudgeLine(t *testing.T) {
	n := tally{}
	for why, w := range worldsToJudge(t) {
		want := verdictByRules(w)
		said := "no"
		switch {
		case !worldByRules(w):
			said = "bad"
		case want == fair():
			said = "yes"
		}
		askTold(t, why, w, "judge", said)
		n[said]++
	}
	n.least(t, map[string]int{"yes": 10, "no": 10, "bad": 10})
	for places := 1; places <= mostPlaces; places++ {
		w := fairWorld(places)
		askTold(t, "fair", w, "judge", "yes")
		askTold(t, "taken otherwise", turnedWorld(w, func(w *impl.World) { w.Took[0][1] = "other" }), "judge", "no")
		askTold(t, "there twice", turnedWorld(w, func(w *impl.World) { w.Homes[1].P.Pid = 1 }), "judge", "no")
		askTold(t, "queued otherwise", turnedWorld(w, func(w *impl.World) { w.Links[0].Queue[2] = "other" }), "judge", "no")
	}
}

func TestRoundLine(t *testing.T) {
	turned := 0
	for why, w := range worldsForDays(t) {
		want, said := roundByRules(w), "ok"
		if !worldByRules(w) {
			want, said = w, "bad"
		}
		askHeard(t, why, w, "round", want, said)
		if !sameWorld(w, want) {
			turned++
		}
	}
	if turned < 20 {
		t.Error("so few were turned", turned)
	}
	still := bareWorld(2)
	askTold(t, "nothing in it", still, "round", "ok")
	w := programWorld(t, 2, "(do (print 1) (go 1) (print 2))")
	for day, out := range words("none", "1 2", "1 2") {
		if day > 0 {
			w, _ = impl.WorldLine(w, "round")
		}
		if day == 1 {
			askTold(t, "behind one round", w, "out 1", "1")
			w, _ = impl.WorldLine(w, "round")
		}
		askTold(t, fmt.Sprint("behind ", day), w, "out 1", out)
	}
}

func TestOutLine(t *testing.T) {
	for _, x := range []struct {
		out  []string
		said string
	}{
		{nil, "none"},
		{words("1"), "1"},
		{words("(a b)"), "(a b)"},
		{words("1", "2"), "1 2"},
		{words("(a b)", "#pid1", "()"), "(a b) #pid1 ()"},
		{words("none"), "none"},
		{words("a", "", "b"), "a  b"},
		{words("", ""), " "},
		{words(" "), " "},
		// One empty text alone comes to nothing to tell; with a blank there is something.
		{words(""), "none"},
		{words("", "1"), " 1"},
		{words("1", ""), "1 "},
		{words("", "", ""), "  "},
		{words("", "none"), " none"},
		{words("a\nb", "\x00"), "a\nb \x00"},
		{printed(mostOut), strings.Join(printed(mostOut), " ")},
	} {
		for places := 1; places <= mostPlaces; places++ {
			w := bareWorld(places)
			w.Homes = slices.Concat(homesOf(0, 5, 3), homesOf(places-1, 9, mostNumeral, lastPid))
			for i := range w.Homes {
				w.Homes[i].P.Out = nil
			}
			for i, pid := range []int{5, 3, 9, mostNumeral} {
				one := cloneWorld(w)
				one.Homes[i].P.Out = x.out
				askTold(t, "printed", one, fmt.Sprint("out ", pid), x.said)
				askTold(t, "printed", one, fmt.Sprint("where ", pid), fmt.Sprint([]int{0, 0, places - 1, places - 1}[i]))
				askTold(t, "another one", one, "out "+words("3", "5", "3", "3")[i], "none")
			}
			// No line has so many digits.
			askTold(t, "ten digits", w, fmt.Sprint("out ", lastPid), "what")
			askTold(t, "ten digits", w, fmt.Sprint("where ", lastPid), "what")
		}
	}
}

func TestOutAndWhereOfWhoIsNotAtHome(t *testing.T) {
	w := bareWorld(3)
	w.Homes = homesOf(2, 2, 6)
	setWay(&w, 1, 1, procMove(3), procMove(7))
	setWay(&w, 6, 0, wordBytes(4, aWord), procMove(11))
	w.Next = 20
	for _, x := range []struct{ pid, out, where string }{
		{"2", strings.Join(printed(2), " "), "2"},
		{"6", strings.Join(printed(2), " "), "2"},
		{"7", "none", "1"},
		{"11", "none", "0"},
		{"3", "none", "none"},
		{"4", "none", "none"},
		{"0", "none", "none"},
		{"1", "none", "none"},
		{"19", "none", "none"},
		{"20", "none", "none"},
		{"999999999", "none", "none"},
		{"02", "what", "what"},
		{"00", "what", "what"},
		{"007", "what", "what"},
		{"", "what", "what"},
		{"-1", "what", "what"},
		{"1000000000", "what", "what"},
		{"2 ", "what", "what"},
		{" 2", "what", "what"},
		{"2 2", "what", "what"},
		{"#pid2", "what", "what"},
	} {
		askTold(t, "out", w, "out "+x.pid, x.out)
		askTold(t, "where", w, "where "+x.pid, x.where)
	}
	for why, w := range rightWorlds() {
		for pid := range 12 {
			_, out := heardByRules(w, fmt.Sprint("out ", pid))
			askTold(t, why, w, fmt.Sprint("out ", pid), out)
			askTold(t, why, w, fmt.Sprint("where ", pid), askedByRules(w, "where", pid))
		}
	}
}

// A deed by each code that there is; but WdBad, which no deed of a line comes to in a world that is right.
func TestDeedLinesByTheirCodes(t *testing.T) {
	waiting := programWorld(t, 2, "(recv)")
	for waiting.Homes[0].P.M.State == impl.MsRun {
		waiting, _ = impl.WorldDo(waiting, stepOf(1, 0))
	}
	over := programWorld(t, 2, "5")
	over, _ = impl.WorldDo(over, stepOf(1, mostMore))
	for _, x := range []struct {
		why  string
		w    impl.World
		line string
		said string
	}{
		{"it runs", programWorld(t, 1, endless), "step 1 0", "ok"},
		{"it runs on", programWorld(t, 1, endless), "step 1 50", "ok"},
		{"nobody", programWorld(t, 1, endless), "step 2 0", "none"},
		{"it waits", waiting, "step 1 0", "wait"},
		{"it waits still", waiting, "step 1 50", "wait"},
		{"it is over", over, "step 1 0", "end"},
		{"too many there", spawning(1, 8), "step 1 0", "full"},
		{"spawned", spawning(1, 3), "step 1 0", "ok"},
		{"gone", leaving(0, 1), "step 5 0", "ok"},
		{"sent at home", sending(0, homesOf(0, 5)...), "step 1 0", "ok"},
		{"shown", handing(0, 1, procMove(5)), "give 0", "ok"},
		{"no gram", handing(0, 1, procMove(5)), "give 4", "none"},
		{"no such gram", busyWorld(2), "give 999999999", "none"},
		{"no such gram", busyWorld(2), "copy 3", "none"},
		{"no such gram", busyWorld(2), "lose 3", "none"},
		{"copied", busyWorld(2), "copy 2", "ok"},
		{"lost", busyWorld(2), "lose 2", "ok"},
		{"no room for a copy", fullWorld(2), "copy 0", "full"},
		{"no room to show", fullWorld(2), "show 0 1", "full"},
		{"nothing to show", bareWorld(2), "show 0 1", "wait"},
		{"something to show", busyWorld(2), "show 0 1", "ok"},
		{"to itself", busyWorld(2), "show 1 1", "none"},
		{"no place", busyWorld(2), "show 1 2", "none"},
		{"no such place", busyWorld(2), "show 999999999 999999999", "none"},
		{"too many steps", busyWorld(2), "step 1 51", "what"},
	} {
		d, _ := parsedByRules(x.line)
		want, code := deedDoneByRules(x.w, d)
		if x.said == "what" {
			want, code = x.w, isBad
		} else if codeNames()[code] != x.said {
			t.Errorf("%s: the deed of %q comes to %d", x.why, x.line, code)
		}
		askHeard(t, x.why, x.w, x.line, want, x.said)
		if x.said != "ok" && !sameWorld(want, x.w) {
			t.Errorf("%s: %q changes something", x.why, x.line)
		}
	}
}

// someLineTo: a line for this world: a deed, one that asks, or some other.
func (r *aRandom) someLineTo(w impl.World, mood int) string {
	switch r.below(12) {
	case 0:
		return r.someLine()
	case 1:
		return words("judge", "round", "", ";", "; step 1 0", "judge ")[r.below(6)]
	case 2:
		return fmt.Sprint(words("out ", "where ")[r.below(2)], r.somePid(w))
	}
	line, ok := lineByRules(r.someDeed(w, mood))
	if !ok {
		return "give 0"
	}
	return line
}

// What asks, and what does not tell `ok`, changes nothing.
func TestAnyLinesByRules(t *testing.T) {
	t.Parallel()
	n := tally{}
	r := &aRandom{x: 1703}
	ask := func(why string, w impl.World, line string) impl.World {
		want, said := heardByRules(w, line)
		askHeard(t, fmt.Sprint(why, ", ", line), w, line, want, said)
		if said != "ok" && !sameWorld(w, want) {
			t.Errorf("%s: %q tells %q, and changes something", why, line, said)
		}
		n[said]++
		return want
	}
	for range 400 {
		w := r.someBusy()
		for range 4 {
			ask("busy", w, r.someLineTo(w, 0))
		}
		line := r.someLineTo(w, 0)
		r.breakWorld(&w)
		ask("broken", w, line)
	}
	for i, text := range livelyPrograms() {
		w := programWorld(t, 1+i%mostPlaces, text)
		for step := range 150 {
			w = ask(text, w, r.someLineTo(w, step/40))
		}
	}
	n.least(t, map[string]int{"ok": 800, "none": 200, "wait": 80, "end": 60, "full": 10, "what": 80, "yes": 20, "no": 2, "bad": 60, "": 60})
}

// noPrograms are texts of which there is no world, wherever it is.
func noPrograms() map[string]string {
	return map[string]string{
		"nothing":              "",
		"a blank":              " ",
		"no main":              "(define (f) 1)",
		"a main of one":        "(define (main x) x)",
		"an open list":         "(print 1",
		"a closed one":         "(print 1))",
		"no form":              "(if)",
		"not all of a form":    "(let x)",
		"two expressions":      "1 2",
		"a main and more":      "(define (main) 1) 2",
		"one name twice":       "(define (f) 1) (define (f) 2) 3",
		"a variable twice":     "(fn (x x) 1)",
		"too many definitions": strings.Repeat("(define (main) 1) ", 2),
		"a number too great":   "(print 1000000001)",
		"a byte of 0":          "(print 1)\x00",
		"a byte of 255":        "\xff",
		"far too long":         strings.Repeat("(", 1<<16) + strings.Repeat(")", 1<<16),
		"too many for all":     "(print (quote (" + strings.Repeat("1 ", 1<<16) + ")))",
	}
}

func TestSessionsOfNoWorld(t *testing.T) {
	many := strings.Repeat("round\n", mostLines+1)
	for why, text := range noPrograms() {
		for _, places := range []int{math.MinInt, -1, 0, 1, 2, mostPlaces, mostPlaces + 1, math.MaxInt} {
			for _, lines := range words("", "round", "judge\n", "\n", many, many+"x", strings.Repeat("\n", 999)) {
				askSession(t, why, text, places, lines, "", -1)
			}
		}
	}
	for _, places := range []int{math.MinInt, -1 << 32, -2, -1, 0, mostPlaces + 1, mostPlaces + 2, 1<<32 + 1, math.MaxInt} {
		for _, lines := range words("", "round", "judge\n", "\n", many, many+"x", strings.Repeat("\n", 999)) {
			askSession(t, "no such places", "(print 1)", places, lines, "", -1)
		}
	}
	for places := 1; places <= mostPlaces; places++ {
		askSession(t, "such places", "(print 1)", places, "judge", "yes\n", 1)
		askSession(t, "too many lines", "(print 1)", places, many, "", -2)
	}
}

func TestHowManyLines(t *testing.T) {
	for _, x := range []struct {
		lines string
		told  string
		count int
	}{
		{"", "", 0},
		{"\n", "", 1},
		{"\n\n", "", 2},
		{"\n\n\n", "", 3},
		{"judge", "yes\n", 1},
		{"judge\n", "yes\n", 1},
		{"\njudge", "yes\n", 2},
		{"\njudge\n", "yes\n", 2},
		{"judge\n\n", "yes\n", 2},
		{"judge\njudge", "yes\nyes\n", 2},
		{"judge\njudge\n", "yes\nyes\n", 2},
		{"judge\n\njudge", "yes\nyes\n", 3},
		{"judge\n\n\njudge\n", "yes\nyes\n", 4},
		{";", "", 1},
		{";\n", "", 1},
		{"; judge\n; judge\n;", "", 3},
		{" ", "what\n", 1},
		{" \n", "what\n", 1},
		{"judge\n ", "yes\nwhat\n", 2},
		{"judge \njudge", "what\nyes\n", 2},
		{"judge\r\njudge\r\n", "what\nwhat\n", 2},
		{"judge\rjudge", "what\n", 1},
		{"judge\u2028judge", "what\n", 1},
		{"judge\x00\njudge\v\njudge\f\njudge\u0085", "what\nwhat\nwhat\nwhat\n", 4},
		{"\x00", "what\n", 1},
		{"out 1\nwhere 1\nout 2\nwhere 2", "none\n0\nnone\nnone\n", 4},
	} {
		for places := 1; places <= mostPlaces; places++ {
			askSession(t, "lines", "(print 1)", places, x.lines, x.told, x.count)
		}
	}
}

func TestMostLines(t *testing.T) {
	for _, line := range words("judge", "", ";", "round", "what", "give 0", "; x", "out 1") {
		all := []string{}
		for count := 1; count <= 2*mostLines+3; count++ {
			all = append(all, line)
			lines := strings.Join(all, "\n")
			want, n := sessionByRules("(print 1)", 2, lines+"\n", heardByRules)
			if count <= mostLines && n != count || count > mostLines && n != -2 {
				t.Fatal("the rules tell", n, "of", count)
			}
			askSession(t, "with a byte 10", "(print 1)", 2, lines+"\n", want, n)
			// The empty line is none at the end.
			if line != "" {
				askSession(t, "without it", "(print 1)", 2, lines, want, n)
			}
		}
	}
	for _, x := range []struct {
		lines string
		count int
	}{
		{strings.Repeat("\n", mostLines), mostLines},
		{strings.Repeat("\n", mostLines+1), -2},
		{strings.Repeat("\n", mostLines-1) + ";", mostLines},
		{strings.Repeat("\n", mostLines) + ";", -2},
		{strings.Repeat("\n", 1<<20), -2},
		{strings.Repeat(";\n", 1<<20), -2},
	} {
		askSession(t, "nothing told", "5", 1, x.lines, "", x.count)
	}
}

// A session by hand, of what is sent, shown, copied, lost and given.
func TestASessionByHand(t *testing.T) {
	text := "(let a (spawn (fn () (do (go 1) (print (recv)) (recv)))) (do (print 1) (send a (quote (x y))) (print 2) (recv)))"
	askSession(t, "by hand", text, 2, `; who is there
where 1
where 2
step 1 50
where 2
out 2
step 2 50
step 2 50
where 2
out 2

step 1 50
out 1
step 1 50
step 1 50
step 1 50
out 1
show 0 1
copy 0
copy 1
lose 0
give 0
where 2
give 0
step 2 50
out 2
give 9
give 0
judge
step 2 0
step 3 0
what is this`, strings.Join(words(
		"0", "none", "ok", "0", "none", "ok", "none", "1", "none",
		"ok", "1", "ok", "wait", "wait", "1 2", "ok", "ok", "ok", "ok", "ok", "1", "ok", "ok", "(x y)", "none", "ok", "yes", "wait", "none", "what"), "\n")+"\n", 32)
}

// sessionTexts: programs of all kinds, and what is none.
func sessionTexts() []string {
	list := promiseTexts()
	for _, x := range journeys() {
		list = append(list, x.text)
	}
	for _, x := range programsThatCatch() {
		list = append(list, x.text)
	}
	return append(list, "(define (d n) (if (= n 0) 1 (let x (d (- n 1)) (cons x x)))) (let v (d 9) (do (print v) (go 0) (print v) (print (recv))))")
}

// someLinesFor: so many lines for a world of that program, each for what the world is when it comes, one after the other.
func (r *aRandom) someLinesFor(w impl.World, count int, mood int) string {
	var list []string
	for step := range count {
		line := strings.ReplaceAll(r.someLineTo(w, mood+step/20), "\n", "")
		list = append(list, line)
		w, _ = impl.WorldLine(w, line)
	}
	lines := strings.Join(list, "\n")
	if r.below(2) == 0 {
		lines += "\n"
	}
	return lines
}

// askSameSession: it tells what WorldLine tells, line by line, and what the rules tell.
func askSameSession(t *testing.T, why string, text string, places int, lines string) string {
	t.Helper()
	for by, hear := range map[string]func(w impl.World, line string) (impl.World, string){"WorldLine": impl.WorldLine, "the rules": heardByRules} {
		want, count := sessionByRules(text, places, lines, hear)
		askSession(t, why+", by "+by, text, places, lines, want, count)
	}
	told, _ := impl.Session(text, places, lines)
	if told != "" && !strings.HasSuffix(told, "\n") || strings.Contains(told, "\n\n") || strings.HasPrefix(told, "\n") {
		t.Errorf("%s: it tells lines without a byte 10, or empty ones: %q", why, told)
	}
	return told
}

// Promise 17: a session tells what WorldLine tells, line by line.
func TestSessionsTellWhatLinesTell(t *testing.T) {
	t.Parallel()
	n := tally{}
	for i, text := range sessionTexts() {
		counts := []int{mostLines, 7}
		if i < len(livelyPrograms()) {
			counts = []int{mostLines, mostLines - 1, mostLines, 30, mostLines, mostLines, mostLines}
		}
		for seed, count := range counts {
			places := 1 + (i+seed)%mostPlaces
			r := &aRandom{x: uint64(1710 + 10*i + seed)}
			lines := r.someLinesFor(programWorld(t, places, text), count, seed)
			for _, said := range strings.Split(askSameSession(t, text, text, places, lines), "\n") {
				n[said]++
			}
			// The same lines in another order.
			list := linesByRules(lines)
			slices.Reverse(list)
			askSameSession(t, text+", backwards", text, places, strings.Join(list, "\n"))
		}
		if t.Failed() {
			return
		}
	}
	n.least(t, map[string]int{"ok": 2000, "none": 1000, "wait": 500, "end": 500, "full": 8, "what": 500, "yes": 100, "0": 200, "1": 50})
	for why, text := range noPrograms() {
		askSameSession(t, why, text, 2, "judge\nround\nout 1")
	}
}

// An honest session: rounds, and then what asks.
func TestSessionsOfRounds(t *testing.T) {
	for _, x := range journeys() {
		for places := x.places; places <= mostPlaces; places++ {
			told := outByRules(x.told)
			lines := strings.Repeat("round\n", mostLines-2) + "judge\nout 1"
			askSession(t, x.text, x.text, places, lines, strings.Repeat("ok\n", mostLines-2)+"yes\n"+told+"\n", mostLines)
			askSession(t, x.text, x.text, places, "\n;\n; round\n\n", "", 4)
		}
	}
}

// A value that is too long to be written is printed as the empty text; where nothing else is printed, there is nothing to tell.
func TestASessionThatPrintsEmptyTexts(t *testing.T) {
	long := "(define (d n) (if (= n 0) (quote a) (let x (d (- n 1)) (cons x x)))) "
	askSession(t, "the empty text", long+"(print (d 9))", 1, "out 1\nround\nround\nround\nround\nout 1\njudge", "none\nok\nok\nok\nok\nnone\nyes\n", 7)
	for _, x := range []struct{ main, said string }{
		{"5", "none"},
		{"(print (d 9))", "none"},
		{"(do (print (d 9)) (print (d 9)))", " "},
		{"(do (print (d 9)) (print (d 9)) (print (d 9)))", "  "},
		{"(do (print (d 9)) (print 1))", " 1"},
		{"(do (print 1) (print (d 9)))", "1 "},
		{"(do (print 1) (print (d 9)) (print 2))", "1  2"},
		{"(let v (d 9) (do (go 1) (print v)))", "none"},
		{"(let v (d 9) (do (print v) (go 1) (print v)))", " "},
		{"(print (quote none))", "none"},
		{"(print ())", "()"},
	} {
		for places := 2; places <= mostPlaces; places++ {
			outs, _ := outsOf(t, long+x.main, places, 1)
			if !slices.Equal(outs, words(x.said)) {
				t.Errorf("%s: it prints %q, and not %q", x.main, outs, x.said)
			}
		}
		askSameSession(t, x.main, long+x.main, 2, strings.Repeat("round\nout 1\nwhere 1\n", mostLines/3))
	}
}

// A sendable is what can be sent elsewhere to be called there: with what it is called, and what it prints then; of some that is told as it comes.
type sendable struct {
	fun  string
	with string
	told string
}

const asItComes = "as it comes"

func sendables() []sendable {
	return []sendable{
		{"(fn (x) x)", "5", "5"},
		{"(fn (x) (+ x 1))", "41", "42"},
		{"(fn (x) (cons x (cons x ())))", "(quote a)", "(a a)"},
		// What was bound where they were made goes along.
		{"(let n 3 (fn (x) (* n x)))", "7", "21"},
		{"(let n 3 (let m 40 (fn (x) (+ (* n x) m))))", "7", "61"},
		{"(let l (quote (1 (2 3) #f x)) (fn (x) (cons x l)))", "()", "(() 1 (2 3) #f x)"},
		{"(let g (let n 5 (fn (y) (- n y))) (fn (x) (g (g x))))", "2", "2"},
		{"(make 4)", "5", "(4 . 5)"},
		{"(make (make 4))", "5", asItComes},
		{"(fn (x) (make x))", "5", asItComes},
		{"(fn (x) ((make x) (make x)))", "5", asItComes},
		{"(fn (x) ((fn (y) (cons y x)) 8))", "9", "(8 . 9)"},
		{"(fn (x) ((x 1) 2))", "(fn (a) (fn (b) (cons b a)))", "(2 . 1)"},
		{"(fn (x) (do (print 1) (print x) 3))", "2", "1 2 3"},
		// What is built in, and what has a name, is the same everywhere.
		{"car", "(quote (a b))", "a"},
		{"not", "#f", "#t"},
		{"null?", "()", "#t"},
		{"print", "7", "7 ()"},
		{"double", "21", "42"},
		{"(fn (x) (double (double x)))", "3", "12"},
		{"fact", "6", "720"},
		{"(fn (l) (map (fn (x) (* x x)) l))", "(quote (1 2 3))", "(1 4 9)"},
		{"(((fn (f) (fn (n) (f f n))) (fn (f n) (if (= n 0) (fn (x) x) (f f (- n 1))))) 9)", "4", "4"},
		// What is caught there comes back there.
		{"(fn (x) (+ 1 (callcc (fn (k) (+ 100 (k x))))))", "5", "6"},
		{"(fn (x) (let k (callcc (fn (k) k)) (if (pair? k) (car k) (do (print 0) (k (cons x ()))))))", "8", "0 8"},
		{"(fn (x) (if (= x 0) (quote none) (do (print x) (go 0) (quote there))))", "1", "1 there"},
		{"(fn (x) (do (go 0) (go 0) (print (go 0)) x))", "6", "() 6"},
		// What fails here fails there.
		{"(fn (x) (do (print 1) (car x) (print 2)))", "3", "1"},
		{"(fn (x) (do (print x) (print 1000000000) (+ x 1000000000)))", "1", "1 1000000000"},
		{"(fn (x) (nowhere x))", "3", "none"},
		{"(fn (x y) x)", "1", "none"},
		{"(quote (1 2))", "1", "none"},
		{"(map double (quote (1 2)))", "5", "none"},
	}
}

// withNamed: the program, with the definitions of what it names ahead of it; there is no room for all of them.
func withNamed(text string) string {
	for _, x := range [][2]string{
		{"double", "(define (double n) (+ n n))"},
		{"fact", "(define (fact n) (if (< n 2) 1 (* n (fact (- n 1)))))"},
		{"map", "(define (map f l) (if (null? l) () (cons (f (car l)) (map f (cdr l)))))"},
		{"make", "(define (make a) (fn (b) (cons a b)))"},
	} {
		if regexp.MustCompile(`[( ]` + x[0] + `[ )]`).MatchString(text) {
			text = x[1] + " " + text
		}
	}
	return text
}

// outsOf: what each of the first processes has printed in a good world, at the end of a session, and where it is.
func outsOf(t *testing.T, text string, places int, count int) ([]string, []string) {
	t.Helper()
	lines := strings.Repeat("round\n", mostLines-2*count-1)
	for pid := 1; pid <= count; pid++ {
		lines += fmt.Sprintf("out %d\nwhere %d\n", pid, pid)
	}
	told, n := impl.Session(text, places, lines+"judge")
	list := linesByRules(told)
	if n != mostLines || len(list) != mostLines || list[mostLines-1] != "yes" {
		t.Fatalf("a session of %q tells %q, %d", text, told, n)
	}
	var outs, wheres []string
	for i := mostLines - 2*count - 1; i < mostLines-1; i += 2 {
		outs, wheres = append(outs, list[i]), append(wheres, list[i+1])
	}
	return outs, wheres
}

// askOuts: all have printed this, or as it comes, but something, and alike.
func askOuts(t *testing.T, x sendable, outs []string) {
	t.Helper()
	for i, out := range outs {
		if out != x.told && x.told != asItComes || out != outs[0] || out == "none" && x.told == asItComes {
			t.Errorf("%s of %s: process %d prints %q, where the first one prints %q, and not %q", x.fun, x.with, i+1, out, outs[0], x.told)
		}
	}
}

// Promise 17: a function that is sent elsewhere does there what it does here.
func TestFunctionsDoElsewhereWhatTheyDoHere(t *testing.T) {
	for _, x := range sendables() {
		for places := 1; places <= mostPlaces; places++ {
			for at := range places {
				text := withNamed(fmt.Sprintf("(let f %s (let a (spawn (fn () (do (go %d) (let g (recv) (print (g (recv))))))) (do (send a f) (send a %s) (print (f %s)))))", x.fun, at, x.with, x.with))
				outs, wheres := outsOf(t, text, places, 2)
				askOuts(t, x, outs)
				if !strings.Contains(x.fun, "(go ") && (wheres[0] != "0" || wheres[1] != fmt.Sprint(at)) {
					t.Errorf("%s: they are at %q", x.fun, wheres)
				}
			}
		}
	}
}

// It may be sent on from there, and back.
func TestFunctionsThatAreSentOn(t *testing.T) {
	for _, x := range sendables() {
		text := withNamed(fmt.Sprintf("(define (at p w) (spawn (fn () (do (go p) (let g (recv) (do (send w g) (print (g %s)))))))) (let f %s (let b (at 2 (self)) (let a (at 1 b) (do (send a f) (let g (recv) (print (g %s)))))))", x.with, x.fun, x.with))
		outs, _ := outsOf(t, text, 3, 3)
		askOuts(t, x, outs)
	}
}

// What is caught here and sent elsewhere goes on there as it does here.
func TestCaughtStatesThatAreSent(t *testing.T) {
	for _, x := range []struct{ text, first, other string }{
		{"(let a (spawn (fn () (do (go 1) (let k (recv) (k 5))))) (print (+ 1 (callcc (fn (k) (do (send a k) 1))))))", "2", "6"},
		{"(let a (spawn (fn () (do (go 1) (print 0) ((recv) (quote (b c)))))) (let x (quote a) (let y (callcc (fn (k) (do (send a k) x))) (do (print (cons x y)) (print (self))))))", "(a . a) #pid1", "0 (a b c) #pid2"},
	} {
		for places := 2; places <= mostPlaces; places++ {
			outs, wheres := outsOf(t, x.text, places, 2)
			if !slices.Equal(outs, words(x.first, x.other)) || !slices.Equal(wheres, words("0", "1")) {
				t.Errorf("%s: they print %q at %q", x.text, outs, wheres)
			}
		}
	}
}

// someFun: a function of one value, made of what programs are made of. Who it is would be told otherwise elsewhere, so it does not ask.
func (r *aRandom) someFun() string {
	body := "(fn (x) " + strings.ReplaceAll(r.talk(5), "(self)", "y") + ")"
	value := words("1", "7", "()", "#t", "(quote (a (b) 5))", "f", "(fn (y) (print y))", "car")[r.below(8)]
	switch r.below(3) {
	case 0:
		return "(let y " + value + " (fn (z) (" + body + " (cons y z))))"
	case 1:
		return "(let y " + value + " (let x (fn () (f y)) " + body + "))"
	}
	return "(let y " + value + " " + body + ")"
}

// Any function prints elsewhere what it prints here, and comes to its end or fails there as it does here; and alone, too.
func TestAnyFunctionsDoElsewhereWhatTheyDoHere(t *testing.T) {
	r := &aRandom{x: 1704}
	n := tally{}
	for range 1500 {
		fun := r.someFun()
		text := "(define (f x) (print x)) (define (main) (let g " + fun + " (let a (spawn (fn () (do (go 1) (let g (recv) (print (g 5)))))) (do (send a g) (print (g 5))))))"
		p, list, how, _ := impl.Read(impl.Pool{}, text)
		c, made, _ := impl.Compile(p, list)
		if how != impl.RdDone || made != impl.CpDone {
			continue
		}
		w, _ := impl.WorldNew(c, 2)
		w = impl.Days(w, mostDays)
		first, other := homeByRules(w, 1), homeByRules(w, 2)
		if first < 0 || other < 0 || w.Homes[first].P.M.State == impl.MsRun {
			n["goes on"]++
			continue
		}
		a, b := w.Homes[first].P, w.Homes[other].P
		if !slices.Equal(a.Out, b.Out) || a.M.State != b.M.State || a.M.Ask != b.M.Ask {
			t.Errorf("%s\nprints and comes here to %q, %d, %d and elsewhere to %q, %d, %d", text, a.Out, a.M.State, a.M.Ask, b.Out, b.M.State, b.M.Ask)
		}
		n[fmt.Sprint("state ", a.M.State)]++
		n["told"] += len(a.Out)
		// A place that is not there ends it in a world alone; and so do too many texts.
		if strings.Contains(fun, "(go ") || len(a.Out) == mostOut {
			continue
		}
		m, told, _ := impl.Alone(programOf(t, "(define (f x) (print x)) (define (main) (let g "+fun+" (print (g 5))))"), "main", impl.MaxSteps)
		if m.State != a.M.State || !isTold(told, a.Out) {
			t.Errorf("%s: alone it prints %q and comes to %d, and not %q, %d", fun, told, m.State, a.Out, a.M.State)
		}
		n["alone"]++
	}
	n.least(t, map[string]int{"state 2": 500, "state 3": 500, "told": 2000, "alone": 600})
}

// isTold: the same texts, but for the numbers of functions, which hang on what stands ahead of them.
func isTold(a []string, b []string) bool {
	number := regexp.MustCompile(`#fun[0-9]+`)
	plain := func(list []string) string { return number.ReplaceAllString(strings.Join(list, "\n"), "#fun") }
	return plain(a) == plain(b)
}

// worldsToHear: of all sorts, and lines for them.
func worldsToHear(t *testing.T) (map[string]impl.World, []string) {
	lines := words("", ";", "; x", "judge", "round", "out 1", "out 2", "where 1", "where 9", "step 1 0", "step 1 50", "step 2 3", "show 0 1", "show 1 0", "give 0", "give 1", "copy 0", "lose 0", "lose 1", "give 99", "what", "step 1 51")
	return worldsForDays(t), lines
}

// Nothing is written into a world nor into the room behind it; and no list of an answer shares memory with it, with another list of it, or with another answer.
func TestNothingIsWrittenByLines(t *testing.T) {
	worlds, lines := worldsToHear(t)
	for why, w := range worlds {
		w = roomyWorld(w)
		before := memoryTold(w)
		all := spansOf("world", reflect.ValueOf(w))
		// All answers are kept to the end: the memory of one that is gone may be given to another one.
		var answers []impl.World
		for _, line := range append(lines, "judge", "step 1 0") {
			next, _ := impl.WorldLine(w, line)
			answers = append(answers, next)
			all = append(all, spansOf(line, reflect.ValueOf(next))...)
		}
		if memoryTold(w) != before {
			t.Errorf("%s: an argument was written into, or the room behind it", why)
		}
		if two := shared(all); two != nil {
			t.Errorf("%s: %q share memory", why, two)
		}
		runtime.KeepAlive(answers)
		runtime.KeepAlive(w)
	}
}

// Each answers the same however often it is asked, by one or by many at once; and what was answered stays.
func TestLinesAnswerTheSame(t *testing.T) {
	worlds, lines := worldsToHear(t)
	first, kept, told := map[string]impl.World{}, map[string]impl.World{}, map[string]string{}
	for why, w := range worlds {
		for _, line := range lines {
			first[why+line], told[why+line] = impl.WorldLine(w, line)
			kept[why+line] = cloneWorld(first[why+line])
		}
	}
	sessions := map[string]string{}
	all := strings.Join(lines, "\n")
	for _, text := range sessionTexts()[:20] {
		sessions[text], _ = impl.Session(text, 2, all)
	}
	ask := func() {
		for why, w := range worlds {
			for _, line := range lines {
				if got, said := impl.WorldLine(w, line); !sameWorld(got, kept[why+line]) || said != told[why+line] {
					t.Errorf("%s: %q tells %q, %s\nand not %q, %s", why, line, said, toldWorld(got), told[why+line], toldWorld(kept[why+line]))
				}
			}
		}
		for text, want := range sessions {
			if got, _ := impl.Session(text, 2, all); got != want {
				t.Errorf("%s: a session tells %q, and not %q", text, got, want)
			}
		}
	}
	askedByMany(ask)
	for why, w := range first {
		if !sameWorld(w, kept[why]) {
			t.Errorf("%s: what was answered is turned", why)
		}
	}
}

// No goroutine is left when it has answered.
func TestLinesLeaveNothingBehind(t *testing.T) {
	worlds, lines := worldsToHear(t)
	for _, w := range worlds {
		// What is left waiting in a bubble makes it panic when all others have ended.
		synctest.Test(t, func(t *testing.T) {
			for _, line := range lines {
				impl.WorldLine(w, line)
			}
		})
	}
	for _, text := range sessionTexts() {
		synctest.Test(t, func(t *testing.T) { impl.Session(text, 2, strings.Join(lines, "\n")) })
	}
	askNothingGoesOn(t)
}
