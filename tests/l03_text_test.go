package tests

import (
	"fmt"
	"math"
	"regexp"
	"slices"
	"strconv"
	"strings"
	"testing"
	"unsafe"

	"loop.example/g00189/impl"
)

// A told is all that Read answers.
type told struct {
	pool  impl.Pool
	list  []int
	how   int
	place int
}

func readOf(p impl.Pool, text string) told {
	pool, list, how, place := impl.Read(p, text)
	return told{pool, list, how, place}
}

func (a told) equal(b told) bool {
	return sameNodes(a.pool, b.pool) && slices.Equal(a.list, b.list) && a.how == b.how && a.place == b.place
}

// refused: what Read answers at a mistake, when the pool is right.
func refused(p impl.Pool, how int, place int) told { return told{p, nil, how, place} }

func askRead(t *testing.T, p impl.Pool, text string, want told) {
	t.Helper()
	if got := readOf(p, text); !got.equal(want) {
		t.Errorf("%q behind %d nodes is read as %+v; asked: %+v", text, len(p.Nodes), got, want)
	}
}

// askMistake asks behind no pool and behind one that is not empty.
func askMistake(t *testing.T, text string, how int, place int) {
	t.Helper()
	askRead(t, impl.Pool{}, text, refused(impl.Pool{}, how, place))
	askRead(t, mixedPool(), text, refused(mixedPool(), how, place))
}

// askWord asks for a text that is one word, and no more.
func askWord(t *testing.T, word string, n impl.Node) {
	t.Helper()
	askRead(t, impl.Pool{}, word, told{poolOf(n), []int{0}, impl.RdDone, len(word)})
	p := mixedPool()
	at := len(p.Nodes)
	askRead(t, p, word, told{poolOf(append(p.Nodes, n)...), []int{at}, impl.RdDone, len(word)})
	if got := impl.Write(poolOf(n), 0); got != word {
		t.Errorf("%+v is written as %q; asked: %q", n, got, word)
	}
}

// The words that are told apart here by patterns, so that they are not told by the program's own means.
var (
	numberWord = regexp.MustCompile(`^(0|-?[1-9][0-9]*)$`)
	nameWord   = regexp.MustCompile(`^[a-z+*<=?!/-]{1,12}$`)
	nextWord   = regexp.MustCompile(`^[a-z0-9+*<=?!/#-]+`)
)

func wordByPattern(word string) (impl.Node, bool) {
	x, err := strconv.ParseInt(word, 10, 64)
	switch {
	case word == "#t":
		return boolNode(1), true
	case word == "#f":
		return boolNode(0), true
	case nameWord.MatchString(word):
		return symNode(word), true
	case numberWord.MatchString(word) && err == nil && x >= -impl.MaxInt && x <= impl.MaxInt:
		return intNode(int(x)), true
	}
	return impl.Node{}, false
}

// readByRules reads byte by byte as the document tells it, with MakeList for the lists.
func readByRules(p impl.Pool, text string) told {
	if len(text) > impl.MaxText {
		return refused(p, impl.RdLong, 0)
	}
	pool := copyOf(p)
	lists, opens := [][]int{{}}, []int{}
	put := func(nodes []impl.Node) {
		pool.Nodes = append(pool.Nodes, nodes...)
		last := len(lists) - 1
		lists[last] = append(lists[last], len(pool.Nodes)-1)
	}
	for at := 0; at < len(text); at++ {
		word := nextWord.FindString(text[at:])
		n, ok := wordByPattern(word)
		switch {
		case word != "" && !ok:
			return refused(p, impl.RdWord, at)
		case word != "":
			put([]impl.Node{n})
			at += len(word) - 1
		case text[at] == '(':
			lists, opens = append(lists, nil), append(opens, at)
		case text[at] == ')' && len(opens) == 0:
			return refused(p, impl.RdClose, at)
		case text[at] == ')':
			values := lists[len(lists)-1]
			lists, opens = lists[:len(lists)-1], opens[:len(opens)-1]
			put(listNodes(len(pool.Nodes), values))
		case text[at] != ' ':
			return refused(p, impl.RdByte, at)
		}
	}
	if len(opens) > 0 {
		return refused(p, impl.RdOpen, opens[len(opens)-1])
	}
	if len(pool.Nodes) > impl.MaxNodes {
		return refused(p, impl.RdFull, 0)
	}
	return told{pool, lists[0], impl.RdDone, len(text)}
}

// writtenWhole: how a value is written, however long that is; part by part, so only for small trees.
func writtenWhole(p impl.Pool, v int) string {
	n := p.Nodes[v]
	switch n.Kind {
	case impl.KNil:
		return "()"
	case impl.KBool:
		return map[int]string{0: "#f", 1: "#t"}[n.N]
	case impl.KInt:
		return fmt.Sprint(n.N)
	case impl.KSym:
		return n.S
	case impl.KPair:
		return "(" + writtenWhole(p, n.A) + writtenRest(p, n.B) + ")"
	}
	return map[int]string{impl.KFun: "#fun", impl.KKont: "#kont", impl.KPrim: "#prim", impl.KPid: "#pid"}[n.Kind] + fmt.Sprint(n.N)
}

func writtenRest(p impl.Pool, v int) string {
	n := p.Nodes[v]
	switch n.Kind {
	case impl.KNil:
		return ""
	case impl.KPair:
		return " " + writtenWhole(p, n.A) + writtenRest(p, n.B)
	}
	return " . " + writtenWhole(p, v)
}

func askWrite(t *testing.T, p impl.Pool, v int) {
	t.Helper()
	want := writtenWhole(p, v)
	if len(want) > impl.MaxText {
		want = ""
	}
	if got := impl.Write(p, v); got != want {
		t.Errorf("%d of %d nodes is written as %q; asked: %q", v, len(p.Nodes), got, want)
	}
}

func TestReadCodesAndLimit(t *testing.T) {
	codes := []int{impl.RdDone, impl.RdLong, impl.RdByte, impl.RdWord, impl.RdOpen, impl.RdClose, impl.RdFull}
	if !slices.Equal(codes, []int{0, 1, 2, 3, 4, 5, 6}) || impl.MaxText != 400 {
		t.Error("codes, limit", codes, impl.MaxText)
	}
}

func TestReadOfNothing(t *testing.T) {
	for _, p := range []impl.Pool{{}, manyNodes(1), mixedPool(), manyNodes(impl.MaxNodes)} {
		for _, n := range []int{0, 1, 2, 17, impl.MaxText - 1, impl.MaxText} {
			askRead(t, p, strings.Repeat(" ", n), told{p, nil, impl.RdDone, n})
		}
		askRead(t, p, strings.Repeat(" ", impl.MaxText+1), refused(p, impl.RdLong, 0))
	}
}

func TestReadOfLongTexts(t *testing.T) {
	for _, part := range []string{"a ", "7 ", "()", "(a)", " #t", "(-5 b)", "(((())))"} {
		text := strings.Repeat(part, impl.MaxText/len(part))
		text += strings.Repeat(" ", impl.MaxText-len(text))
		want := readByRules(mixedPool(), text)
		if want.how != impl.RdDone || len(want.list) == 0 {
			t.Fatalf("%q is a text", text)
		}
		askRead(t, mixedPool(), text, want)
		for _, more := range []string{" ", "a", ")", "(", "A", "\xff", "#", strings.Repeat(" ", 5000)} {
			askMistake(t, text+more, impl.RdLong, 0)
			askMistake(t, more+text, impl.RdLong, 0)
		}
	}
	deep := strings.Repeat("(", impl.MaxText/2) + strings.Repeat(")", impl.MaxText/2)
	askRead(t, impl.Pool{}, deep, readByRules(impl.Pool{}, deep))
	// Bytes count, not runes: 201 runes here, but 402 bytes.
	askMistake(t, strings.Repeat("é", impl.MaxText/2+1), impl.RdLong, 0)
	askMistake(t, strings.Repeat("é", impl.MaxText/2), impl.RdByte, 0)
}

func TestReadEachByte(t *testing.T) {
	for b := range 256 {
		s := string([]byte{byte(b)})
		for _, text := range []string{s, " " + s, s + " ", "a" + s, s + "a", "5" + s, "#" + s, s + "t", "-" + s, s + "5", "(" + s + ")", "(a " + s + " b)", "a" + s + "b", "()" + s + "()", s + s} {
			askRead(t, mixedPool(), text, readByRules(mixedPool(), text))
		}
		isWord := strings.Contains("abcdefghijklmnopqrstuvwxyz+-*<=?!/0123456789#", s)
		isMark := strings.Contains(" ()", s)
		how := readOf(impl.Pool{}, s).how
		if (how == impl.RdByte) != (!isWord && !isMark) {
			t.Errorf("the byte %d alone: %d", b, how)
		}
		if !isWord && !isMark {
			askMistake(t, s, impl.RdByte, 0)
			askMistake(t, "(a 5)"+s, impl.RdByte, 5)
			askMistake(t, "abc"+s+"abc", impl.RdByte, 3)
		}
	}
}

// Runes whose lowest bits, or whose bytes, are near to what is let in.
func TestReadRunesOfSeveralBytes(t *testing.T) {
	for _, low := range "abz+-*<=?!/059# ()" {
		for _, above := range []rune{0x100, 0x200, 0x1000, 0x2000, 0x10000, 0x100000} {
			r := string(low + above)
			askMistake(t, r, impl.RdByte, 0)
			askMistake(t, "(ab"+r+")", impl.RdByte, 3)
			askMistake(t, "a "+r+"\x00", impl.RdByte, 2)
		}
	}
	for _, text := range []string{"é", "λ", "\uFFFD", "\x80", "\xc3", "\xc3(", "\xe2\x82", "\U0001F600", "\xf4\x90\x80\x80", "\xed\xa0\x80", "\u00a0", "\u2003", "\ufeff"} {
		askMistake(t, text, impl.RdByte, 0)
		askMistake(t, "ab "+text, impl.RdByte, 3)
		askMistake(t, "(-7"+text+"b)", impl.RdByte, 3)
	}
}

func TestReadNumbers(t *testing.T) {
	for _, x := range []int{0, 1, -1, 5, -5, 9, 10, -10, 100, 305, 999999999, -999999999, impl.MaxInt - 1, 1 - impl.MaxInt, impl.MaxInt, -impl.MaxInt} {
		askWord(t, strconv.Itoa(x), intNode(x))
	}
	wrong := []string{
		"1000000001", "-1000000001", "1000000010", "9999999999", "-9999999999", "4294967296", "4294967301", "9223372036854775807", "9223372036854775808",
		"-9223372036854775808", "-9223372036854775809", "18446744073709551616", "18446744073709551621", strings.Repeat("9", 100), "1" + strings.Repeat("0", 399),
		"00", "01", "05", "007", "-0", "-00", "-01", "-05", "+0", "+5", "+-5", "--5", "-+5", "-5-", "5-", "5+", "1/2", "1e", "1e5", "-5a", "-a5", "-1a", "5a", "a5", "a1", "0x", "0b1",
		"1=", "=1", "<1", "5#", "#5", "0" + strings.Repeat("1", 10), strings.Repeat("0", 400),
	}
	for _, word := range wrong {
		askMistake(t, word, impl.RdWord, 0)
		if len(word) < 100 {
			askMistake(t, "(a "+word+" b)", impl.RdWord, 3)
			askMistake(t, "() "+word, impl.RdWord, 3)
		}
	}
	for _, word := range []string{"1_000", "1.5", "5,6", "0.0"} {
		askMistake(t, word, impl.RdByte, 1)
	}
}

func TestReadNames(t *testing.T) {
	for _, b := range "abcdefghijklmnopqrstuvwxyz+-*<=?!/" {
		for n := 1; n <= 14; n++ {
			name := strings.Repeat(string(b), n)
			if n <= impl.MaxName {
				askWord(t, name, symNode(name))
			} else {
				askMistake(t, name, impl.RdWord, 0)
				askMistake(t, "(a) "+name+" b", impl.RdWord, 4)
			}
		}
	}
	for _, name := range []string{"null?", "set!", "-", "--", "-a", "a-", "-+", "+", "<=", "a/b", "abcdefghijkl", "-abcdefghijk", "define", "t", "f"} {
		askWord(t, name, symNode(name))
	}
	for _, word := range []string{"abcdefghijklm", "-abcdefghijkl", "-1", "-1a", "-9b", "a0", "-a0", strings.Repeat("ab", 200)} {
		if word != "-1" {
			askMistake(t, word, impl.RdWord, 0)
		}
	}
	askWord(t, "-1", intNode(-1))
}

func TestReadHashes(t *testing.T) {
	askWord(t, "#t", boolNode(1))
	askWord(t, "#f", boolNode(0))
	for _, word := range []string{"#", "##", "#x", "#tt", "#ft", "#t#f", "#t#", "##t", "#true", "#false", "a#", "a#t", "#ta", "#t5", "5#t", "t#", "#1", "#0", "#-", "-#t", "#fun", "#fun9", "#fun0", "#kont", "#kont0", "#prim1", "#pid0", "#pid1"} {
		askMistake(t, word, impl.RdWord, 0)
		askMistake(t, "(b "+word+")", impl.RdWord, 3)
		askMistake(t, "b( "+word, impl.RdWord, 3)
	}
	for _, word := range []string{"#T", "#F"} {
		askMistake(t, word, impl.RdWord, 0)
	}
	askMistake(t, "(a . b)", impl.RdByte, 3)
	askMistake(t, ".", impl.RdByte, 0)
	askMistake(t, "'a", impl.RdByte, 0)
}

func TestReadWithoutBlanks(t *testing.T) {
	for _, c := range [][2]string{
		{"a(b)c", "a (b) c"}, {"(a)(b)", "(a) (b)"}, {"()()", "() ()"}, {"5(6)7", "5 (6) 7"}, {"#t()#f", "#t () #f"}, {"(a(b)c)", "(a (b) c)"},
		{"(a(b(c)))", "(a (b (c)))"}, {"((a)b)", "((a) b)"}, {"  ( a  b )  ", "(a b)"}, {"(   )", "()"}, {"( ( ) )", "(())"}, {"(-5)-", "(-5) -"}, {"a   b", "a b"},
	} {
		got, plain := readOf(mixedPool(), c[0]), readOf(mixedPool(), c[1])
		if got.how != impl.RdDone || got.place != len(c[0]) || !sameNodes(got.pool, plain.pool) || !slices.Equal(got.list, plain.list) {
			t.Errorf("%q is read as %+v, %q as %+v", c[0], got, c[1], plain)
		}
		askRead(t, mixedPool(), c[0], readByRules(mixedPool(), c[0]))
		var words []string
		for _, v := range got.list {
			words = append(words, impl.Write(got.pool, v))
		}
		if s := strings.Join(words, " "); s != c[1] {
			t.Errorf("%q is written as %q; asked: %q", c[0], s, c[1])
		}
	}
	// Words without a blank between them are one word.
	for _, word := range []string{"a5", "5a", "#ta", "a#t", "5#f", "#t#t"} {
		askMistake(t, word, impl.RdWord, 0)
	}
	askRead(t, impl.Pool{}, "ab", told{poolOf(symNode("ab")), []int{0}, impl.RdDone, 2})
	askRead(t, impl.Pool{}, "5-", refused(impl.Pool{}, impl.RdWord, 0))
	askRead(t, impl.Pool{}, "55", told{poolOf(intNode(55)), []int{0}, impl.RdDone, 2})
}

// A word where it stands, a list where its ')' stands, behind all that was there.
func TestReadOrderOfNodes(t *testing.T) {
	askRead(t, impl.Pool{}, "()", told{poolOf(nilNode()), []int{0}, impl.RdDone, 2})
	askRead(t, impl.Pool{}, "()()", told{poolOf(nilNode(), nilNode()), []int{0, 1}, impl.RdDone, 4})
	askRead(t, impl.Pool{}, "(a b) a", told{
		poolOf(symNode("a"), symNode("b"), nilNode(), pairNode(1, 2), pairNode(0, 3), symNode("a")), []int{4, 5}, impl.RdDone, 7,
	})
	askRead(t, impl.Pool{}, "(a (5 #t) ()) 7", told{
		poolOf(symNode("a"), intNode(5), boolNode(1), nilNode(), pairNode(2, 3), pairNode(1, 4), nilNode(),
			nilNode(), pairNode(6, 7), pairNode(5, 8), pairNode(0, 9), intNode(7)),
		[]int{10, 11}, impl.RdDone, 15,
	})
	askRead(t, manyNodes(3), "(())#f", told{
		poolOf(intNode(0), intNode(1), intNode(2), nilNode(), nilNode(), pairNode(3, 4), boolNode(0)), []int{5, 6}, impl.RdDone, 6,
	})
	askRead(t, manyNodes(2), "((x) y)", told{
		poolOf(intNode(0), intNode(1), symNode("x"), nilNode(), pairNode(2, 3), symNode("y"), nilNode(), pairNode(5, 6), pairNode(4, 7)),
		[]int{8}, impl.RdDone, 7,
	})
}

func TestReadMistakes(t *testing.T) {
	for _, c := range []struct {
		text  string
		how   int
		place int
	}{
		{")", impl.RdClose, 0}, {" )", impl.RdClose, 1}, {"a)", impl.RdClose, 1}, {"())", impl.RdClose, 2}, {"(a))(", impl.RdClose, 3}, {"5 ) (", impl.RdClose, 2}, {"))", impl.RdClose, 0},
		{"(", impl.RdOpen, 0}, {"(a", impl.RdOpen, 0}, {" ( ", impl.RdOpen, 1}, {"a (b", impl.RdOpen, 2}, {"((", impl.RdOpen, 1}, {"( (", impl.RdOpen, 2}, {"((a)", impl.RdOpen, 0},
		{"((a) (b", impl.RdOpen, 5}, {"(a) (b", impl.RdOpen, 4}, {"(a (b (c) d", impl.RdOpen, 3}, {"(a (b (c) d)", impl.RdOpen, 0}, {"(()(()", impl.RdOpen, 3}, {"(()(())", impl.RdOpen, 0}, {"(()((", impl.RdOpen, 4},
		{"A", impl.RdByte, 0}, {"a b C", impl.RdByte, 4}, {"a\tb", impl.RdByte, 1}, {"a\n", impl.RdByte, 1}, {"[a]", impl.RdByte, 0}, {"a;b", impl.RdByte, 1}, {"(a)\x00", impl.RdByte, 3}, {"a>b", impl.RdByte, 1},
		{"05", impl.RdWord, 0}, {" 05", impl.RdWord, 1}, {"(a 05)", impl.RdWord, 3}, {"(05", impl.RdWord, 1}, {"a1)", impl.RdWord, 0}, {"#", impl.RdWord, 0},
	} {
		askMistake(t, c.text, c.how, c.place)
	}
}

func TestReadWhichMistakeComesFirst(t *testing.T) {
	for _, c := range []struct {
		text  string
		how   int
		place int
	}{
		{"A 05", impl.RdByte, 0}, {"05 A", impl.RdWord, 0}, {"A )", impl.RdByte, 0}, {") A", impl.RdClose, 0}, {") 05", impl.RdClose, 0}, {"05 )", impl.RdWord, 0}, {"05)", impl.RdWord, 0}, {")05", impl.RdClose, 0},
		// A word begins ahead of the byte that ends it.
		{"05A", impl.RdWord, 0}, {"a1\xff", impl.RdWord, 0}, {"#A", impl.RdWord, 0}, {"A05", impl.RdByte, 0}, {"abA05", impl.RdByte, 2}, {"a 5b\x80", impl.RdWord, 2}, {"abcdefghijklmA", impl.RdWord, 0},
		// What is open still is told at the end alone.
		{"(A", impl.RdByte, 1}, {"(05", impl.RdWord, 1}, {"(a ())) (", impl.RdClose, 6}, {"( ( A", impl.RdByte, 4}, {"((a) #x", impl.RdWord, 5}, {"(a (b \n", impl.RdByte, 6}, {"((( 1000000001", impl.RdWord, 4},
		{"A B", impl.RdByte, 0}, {"05 06", impl.RdWord, 0}, {"a ) )", impl.RdClose, 2},
	} {
		askMistake(t, c.text, c.how, c.place)
		// A text that is too long is told first, whatever is wrong in it, and wherever.
		blanks := strings.Repeat(" ", impl.MaxText+1-len(c.text))
		askMistake(t, c.text+blanks, impl.RdLong, 0)
		askMistake(t, blanks+c.text, impl.RdLong, 0)
		askMistake(t, c.text+blanks[1:], c.how, c.place)
		askMistake(t, blanks[1:]+c.text, c.how, c.place+len(blanks)-1)
	}
}

func TestReadIntoBrokenPools(t *testing.T) {
	long := strings.Repeat(" ", impl.MaxText+1)
	for why, p := range brokenPools() {
		for _, text := range []string{"", " ", "a", "(a b)", "A", "05", ")", "(", long, long + "A", "A" + long} {
			if got := readOf(p, text); !got.equal(refused(impl.Pool{}, impl.RdFull, 0)) {
				t.Errorf("%s: %q is read as %d, %d with %d nodes and %v", why, text, got.how, got.place, len(got.pool.Nodes), got.list)
			}
		}
	}
}

// nodesOf: how many nodes a text that is right comes to.
func nodesOf(t *testing.T, text string) int {
	t.Helper()
	got := readByRules(impl.Pool{}, text)
	if got.how != impl.RdDone {
		t.Fatalf("%q is no text", text)
	}
	return len(got.pool.Nodes)
}

func TestReadUpToMaxNodes(t *testing.T) {
	for _, text := range []string{"a", "-5", "#t", "()", "a b c", "(a)", "(a b c)", "(()())", "((((a))))", strings.Repeat("a ", 200), strings.Repeat("(", 200) + strings.Repeat(")", 200)} {
		room := impl.MaxNodes - nodesOf(t, text)
		for _, count := range []int{room - 1, room} {
			p := manyNodes(count)
			got := readOf(p, text)
			if !got.equal(readByRules(p, text)) || got.how != impl.RdDone || !impl.PoolOk(got.pool) || len(got.pool.Nodes) != impl.MaxNodes-room+count {
				t.Errorf("%q behind %d nodes: %d, %d nodes", text, count, got.how, len(got.pool.Nodes))
			}
		}
		for _, count := range []int{room + 1, room + 2, impl.MaxNodes} {
			if p := manyNodes(min(count, impl.MaxNodes)); !readOf(p, text).equal(refused(p, impl.RdFull, 0)) {
				t.Errorf("%q behind %d nodes is not refused", text, count)
			}
		}
	}
}

func TestReadMistakesAheadOfAFullPool(t *testing.T) {
	long := strings.Repeat("a ", 201)
	for _, count := range []int{impl.MaxNodes - 1, impl.MaxNodes} {
		p := manyNodes(count)
		for _, c := range []struct {
			text  string
			how   int
			place int
		}{
			{"a b c A", impl.RdByte, 6}, {"a b c 05", impl.RdWord, 6}, {"a b c )", impl.RdClose, 6}, {"a b (c", impl.RdOpen, 4}, {"((a b) (c d) e", impl.RdOpen, 0},
			{"(a b c))", impl.RdClose, 7}, {"(a b c) (()", impl.RdOpen, 8}, {long, impl.RdLong, 0}, {"a b c", impl.RdFull, 0}, {"  (a b c) ", impl.RdFull, 0},
		} {
			if got := readOf(p, c.text); !got.equal(refused(p, c.how, c.place)) {
				t.Errorf("%q behind %d nodes: %d at %d, %d nodes", c.text, count, got.how, got.place, len(got.pool.Nodes))
			}
		}
	}
}

func TestWriteEachKind(t *testing.T) {
	p := poolOf(
		nilNode(), boolNode(0), boolNode(1), intNode(0), intNode(-5), intNode(impl.MaxInt), intNode(-impl.MaxInt), symNode("a"), symNode("null?"), symNode("-"),
		funNode(0, 0), funNode(9, 8), funNode(impl.MaxInt, 0), kontNode(0), kontNode(7), primNode(0), primNode(99), pidNode(0), pidNode(impl.MaxInt),
		pairNode(7, 0), pairNode(4, 19), pairNode(20, 20), pairNode(0, 0),
	)
	want := []string{
		"()", "#f", "#t", "0", "-5", "1000000000", "-1000000000", "a", "null?", "-",
		"#fun0", "#fun9", "#fun1000000000", "#kont0", "#kont0", "#prim0", "#prim99", "#pid0", "#pid1000000000",
		"(a)", "(-5 a)", "((-5 a) -5 a)", "(())",
	}
	for v := range p.Nodes {
		if got := impl.Write(p, v); got != want[v] {
			t.Errorf("%+v is written as %q; asked: %q", p.Nodes[v], got, want[v])
		}
	}
}

func TestWritePairsThatEndOtherwise(t *testing.T) {
	ends := []impl.Node{boolNode(0), boolNode(1), intNode(0), intNode(-5), symNode("b"), funNode(8, 0), kontNode(0), primNode(7), pidNode(2)}
	words := []string{"#f", "#t", "0", "-5", "b", "#fun8", "#kont0", "#prim7", "#pid2"}
	for i, end := range ends {
		p := poolOf(nilNode(), symNode("a"), end, pairNode(1, 2), pairNode(1, 3), pairNode(2, 0), pairNode(3, 0), pairNode(3, 3), pairNode(0, 2), pairNode(4, 2))
		w := words[i]
		want := map[int]string{
			2: w, 3: "(a . " + w + ")", 4: "(a a . " + w + ")", 5: "(" + w + ")", 6: "((a . " + w + "))",
			7: "((a . " + w + ") a . " + w + ")", 8: "(() . " + w + ")", 9: "((a a . " + w + ") . " + w + ")",
		}
		for v, s := range want {
			if got := impl.Write(p, v); got != s {
				t.Errorf("it is written as %q; asked: %q", got, s)
			}
		}
	}
	// What functions and caught states know is not written, however much it is.
	p := doubled(200)
	p.Nodes = append(p.Nodes, funNode(3, 200), kontNode(200), pairNode(201, 202))
	if got := impl.Write(p, 203); got != "(#fun3 . #kont0)" {
		t.Errorf("what is known is written: %q", got)
	}
}

func TestWriteOfNoNodes(t *testing.T) {
	p := mixedPool()
	for _, v := range []int{-1, -2, len(p.Nodes), len(p.Nodes) + 1, impl.MaxNodes, math.MaxInt, math.MinInt} {
		if s := impl.Write(p, v); s != "" {
			t.Errorf("%d, which is no node, is written as %q", v, s)
		}
	}
	if s := impl.Write(impl.Pool{}, 0); s != "" {
		t.Errorf("nothing is written as %q", s)
	}
	for why, p := range brokenPools() {
		for _, v := range []int{-1, 0, 1, len(p.Nodes) - 1, len(p.Nodes)} {
			if s := impl.Write(p, v); s != "" {
				t.Errorf("%s: %d is written as %q", why, v, s)
			}
		}
	}
}

// writeEnds: values that are written with about MaxText bytes, each shape with another last part.
func writeEnds(n int) map[string]impl.Pool {
	shapes := map[string]impl.Pool{}
	for _, last := range []impl.Node{nilNode(), symNode("b"), intNode(-305), kontNode(0), boolNode(1)} {
		flat := poolOf(nilNode(), symNode("a"), symNode("cd"), last)
		deep, ends, dots := copyOf(flat), copyOf(flat), copyOf(flat)
		at := 3
		deepAt, endAt, dotAt := 3, 0, 3
		for i := range n {
			flat.Nodes = append(flat.Nodes, pairNode(1+i%2, at))
			deep.Nodes = append(deep.Nodes, pairNode(deepAt, i%2))
			ends.Nodes = append(ends.Nodes, pairNode(3, endAt))
			dots.Nodes = append(dots.Nodes, pairNode(dotAt, 1+i%2))
			at = len(flat.Nodes) - 1
			deepAt, endAt, dotAt = at, at, at
		}
		word := writtenWhole(poolOf(nilNode(), last), 1)
		shapes["along "+word] = flat
		shapes["down to "+word] = deep
		shapes["a list of "+word] = ends
		shapes["down with dots to "+word] = dots
	}
	return shapes
}

func TestWriteUpToMaxText(t *testing.T) {
	met := map[int]int{}
	for _, p := range writeEnds(210) {
		for v := range p.Nodes {
			askWrite(t, p, v)
			met[len(writtenWhole(p, v))]++
		}
	}
	for n := impl.MaxText - 6; n <= impl.MaxText+6; n++ {
		if met[n] == 0 {
			t.Errorf("no value is written with %d bytes", n)
		}
	}
}

func TestWriteAtTheLimitByLength(t *testing.T) {
	for pad := 1; pad <= impl.MaxName; pad++ {
		// A pair of a name and a list of so many: 1 + pad + 2 a name of one byte + 1.
		for _, many := range []int{190, 191, 192, 193, 194, 195, 196, 197, 198, 199, 200} {
			p := poolOf(symNode("x"), symNode(strings.Repeat("y", pad)))
			p, rest := impl.MakeList(p, make([]int, many))
			p, v := impl.Make(p, pairNode(1, rest))
			want := "(" + strings.Repeat("y", pad) + strings.Repeat(" x", many) + ")"
			if len(want) > impl.MaxText {
				want = ""
			}
			if got := impl.Write(p, v); got != want {
				t.Errorf("a list that is written with %d bytes: %d bytes", 2+pad+2*many, len(got))
			}
		}
	}
}

func TestWriteOfValuesThatShare(t *testing.T) {
	for _, p := range []impl.Pool{doubled(impl.MaxNodes - 1), chain(impl.MaxNodes)} {
		for v := range p.Nodes {
			if v < 14 {
				askWrite(t, p, v)
			} else if s := impl.Write(p, v); v > 250 && s != "" {
				t.Fatalf("%d is written as %q", v, s)
			}
		}
	}
	// As deep as a pool can be, by A alone.
	p := poolOf(nilNode())
	for i := range impl.MaxNodes - 1 {
		p.Nodes = append(p.Nodes, pairNode(i, 0))
	}
	for v := range p.Nodes {
		if v < 2*impl.MaxText {
			askWrite(t, p, v)
		} else if s := impl.Write(p, v); s != "" {
			t.Fatalf("%d lists in each other are written as %q", v, s)
		}
	}
	// Shared in one, apart in the other: written alike.
	q := poolOf(intNode(1), pairNode(0, 0), pairNode(1, 1), intNode(1), intNode(1), pairNode(3, 4), pairNode(4, 0), pairNode(5, 6))
	if a, b := impl.Write(q, 2), impl.Write(q, 7); a != b || a != "((1 . 1) 1 . 1)" {
		t.Errorf("shared %q, apart %q", a, b)
	}
}

// someText: words, brackets and blanks, mostly right.
func (r *aRandom) someText(n int) string {
	var b strings.Builder
	open := 0
	for range n {
		switch k := r.below(10); {
		case k < 2:
			b.WriteString("(")
			open++
		case k < 4 && open > 0:
			b.WriteString(")")
			open--
		case k < 9:
			b.WriteString(" " + []string{"a", "b", "-", "-a", "5", "-5", "0", "#t", "#f", "1000000000", "null?", "abcdefghijkl"}[r.below(12)])
		default:
			b.WriteString(strings.Repeat(" ", r.below(3)))
		}
	}
	return b.String() + strings.Repeat(")", open)
}

// looseText: bytes one by one, mostly wrong.
func (r *aRandom) looseText(n int) string {
	const let = "((()))   aab-1059#tf?A.\xc3\xa9"
	b := make([]byte, n)
	for i := range b {
		b[i] = let[r.below(len(let))]
	}
	return string(b)
}

func TestReadByRules(t *testing.T) {
	r := &aRandom{x: 3}
	hows := map[int]int{}
	full := manyNodes(impl.MaxNodes - 5)
	for i := range 30000 {
		text := r.looseText(r.below(9))
		if i%3 == 0 {
			text = r.someText(r.below(12))
		}
		if i%100 == 0 {
			text = r.someText(60 + r.below(80))
		}
		p := mixedPool()
		if i%30 == 0 {
			p = full
		}
		want := readByRules(p, text)
		hows[want.how]++
		if got := readOf(p, text); !got.equal(want) {
			t.Fatalf("%q behind %d nodes: %v, %d at %d; asked: %v, %d at %d", text, len(p.Nodes), got.list, got.how, got.place, want.list, want.how, want.place)
		}
	}
	for how := impl.RdDone; how <= impl.RdFull; how++ {
		if hows[how] < 20 {
			t.Errorf("the code %d came up %d times", how, hows[how])
		}
	}
}

// Promise 3: what is read is written, and read again as the same.
func TestWhatIsReadIsWrittenAndReadAgain(t *testing.T) {
	r := &aRandom{x: 7}
	again := 0
	for range 3000 {
		text := r.someText(1 + r.below(25))
		p, list, how, place := impl.Read(mixedPool(), text)
		if how != impl.RdDone || place != len(text) {
			t.Fatalf("%q: %d at %d", text, how, place)
		}
		for _, v := range list {
			s := impl.Write(p, v)
			if s != writtenWhole(p, v) && len(writtenWhole(p, v)) <= impl.MaxText || s == "" {
				t.Fatalf("%d of %q is written as %q", v, text, s)
			}
			q, back, how, place := impl.Read(p, s)
			if how != impl.RdDone || place != len(s) || len(back) != 1 || !impl.Same(q, v, back[0]) {
				t.Fatalf("%q, as %q is written, is read as %v, %d at %d", s, text, back, how, place)
			}
			if impl.Write(q, back[0]) != s || impl.Write(q, v) != s {
				t.Fatalf("%q is written otherwise when it is read again", s)
			}
			again++
		}
	}
	if again < 5000 {
		t.Errorf("only %d values were read again", again)
	}
}

// Promise 3: what is alike is written alike; and of what can be read, what is not alike is not.
func TestWhatIsAlikeIsWrittenAlike(t *testing.T) {
	r := &aRandom{x: 11}
	alike := 0
	for range 300 {
		p := r.pool(1 + r.below(16))
		for a := range p.Nodes {
			askWrite(t, p, a)
			for b := range p.Nodes {
				if a == b || !impl.Same(p, a, b) {
					continue
				}
				alike++
				if impl.Write(p, a) != impl.Write(p, b) {
					t.Fatalf("%d and %d of %+v: %q, %q", a, b, p, impl.Write(p, a), impl.Write(p, b))
				}
			}
		}
	}
	if alike < 1000 {
		t.Errorf("only %d were alike", alike)
	}
	for range 200 {
		p, list, _, _ := impl.Read(impl.Pool{}, r.someText(20))
		for _, a := range list {
			for _, b := range list {
				if (impl.Write(p, a) == impl.Write(p, b)) != impl.Same(p, a, b) {
					t.Fatalf("%q and %q", impl.Write(p, a), impl.Write(p, b))
				}
			}
		}
	}
}

func textsToAsk() []string {
	return []string{"", " ", "a", "(a b) 5", "(a (b) ()) #t -7", "A", "05", ")", "(a", "a b A", "(a b 05", "(a) )", strings.Repeat("a ", 200), strings.Repeat(" ", 401)}
}

func TestNothingIsWrittenIntoPoolsByTexts(t *testing.T) {
	for _, p := range poolsToAsk() {
		for _, text := range textsToAsk() {
			q, whole := roomy(p)
			before := slices.Clone(whole)
			got := readOf(q, text)
			for _, v := range []int{-1, 0, len(p.Nodes) - 1, len(p.Nodes)} {
				impl.Write(q, v)
			}
			if !slices.Equal(whole, before) {
				t.Errorf("%q: a pool of %d nodes was written into", text, len(p.Nodes))
			}
			if impl.PoolOk(p) && !slices.Equal(got.pool.Nodes[:len(p.Nodes)], p.Nodes) {
				t.Errorf("%q: what was ahead reads otherwise", text)
			}
		}
	}
}

func TestReadAnswersAreNewMemory(t *testing.T) {
	for _, p := range poolsToAsk() {
		for _, text := range textsToAsk() {
			q, whole := roomy(p)
			before := slices.Clone(whole)
			first, second := readOf(q, text), readOf(q, text)
			kept := told{copyOf(second.pool), slices.Clone(second.list), second.how, second.place}
			spoilNodes(first.pool)
			for i := range first.list[:cap(first.list)] {
				first.list[:cap(first.list)][i] = -9
			}
			if !slices.Equal(whole, before) {
				t.Errorf("%q: the answer shares memory with a pool of %d nodes", text, len(p.Nodes))
			}
			spoilNodes(impl.Pool{Nodes: whole})
			if !second.equal(kept) {
				t.Errorf("%q: the answer shares memory with another one, or with a pool of %d nodes", text, len(p.Nodes))
			}
			if third := readOf(p, text); !third.equal(kept) {
				t.Errorf("%q: something is kept from call to call", text)
			}
		}
	}
}

// within tells whether the bytes of part lie in those of whole.
func within(part string, whole string) bool {
	from := uintptr(unsafe.Pointer(unsafe.StringData(whole)))
	at := uintptr(unsafe.Pointer(unsafe.StringData(part)))
	return at >= from && at < from+uintptr(len(whole))
}

func TestNoTextIsKept(t *testing.T) {
	text := strings.Repeat("abc (de null?) ", 3)
	p, list, _, _ := impl.Read(impl.Pool{}, text)
	for _, n := range p.Nodes {
		if n.Kind == impl.KSym && within(n.S, text) {
			t.Errorf("the name %q is a piece of the text", n.S)
		}
	}
	if s := impl.Write(p, list[0]); s != "abc" || within(s, p.Nodes[list[0]].S) {
		t.Errorf("what is written is the name itself: %q", s)
	}
}

// What was there stays where it was, is written as it was, and the new stands behind it.
func TestReadStandsBehindAll(t *testing.T) {
	r := &aRandom{x: 13}
	for range 300 {
		p := r.pool(1 + r.below(20))
		q, list, how, _ := impl.Read(p, r.someText(r.below(12)))
		if how != impl.RdDone || !impl.PoolOk(q) || !slices.Equal(q.Nodes[:len(p.Nodes)], p.Nodes) {
			t.Fatalf("%d: %+v behind %+v", how, q, p)
		}
		for v := range p.Nodes {
			if impl.Write(q, v) != impl.Write(p, v) || impl.SizeOf(q, v) != impl.SizeOf(p, v) {
				t.Fatalf("%d reads otherwise", v)
			}
		}
		last := len(p.Nodes) - 1
		for _, v := range list {
			if v <= last {
				t.Fatalf("%v does not stand behind %d nodes in order", list, len(p.Nodes))
			}
			last = v
		}
		for v := len(p.Nodes); v < len(q.Nodes); v++ {
			if n := q.Nodes[v]; n.Kind == impl.KPair && (n.A < len(p.Nodes) || n.B < len(p.Nodes)) {
				t.Fatalf("%+v has what was there", n)
			}
		}
	}
}
