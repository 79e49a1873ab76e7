package tests

import (
	"encoding/binary"
	"fmt"
	"math"
	"slices"
	"strings"
	"testing"

	"loop.example/g00189/impl"
)

// A piece is one number or one text of what is written.
type piece struct {
	bytes string
	isNum bool
}

func numPieces(list ...int) []piece {
	var pieces []piece
	for _, x := range list {
		pieces = append(pieces, piece{string(binary.AppendUvarint(nil, uint64(x))), true})
	}
	return pieces
}

// nodePieces: a count, and these nodes as they are, be they right or not.
func nodePieces(nodes ...impl.Node) []piece {
	pieces := numPieces(len(nodes))
	for _, n := range nodes {
		pieces = append(pieces, numPieces(n.Kind)...)
		switch n.Kind {
		case impl.KBool, impl.KPrim, impl.KPid:
			pieces = append(pieces, numPieces(n.N)...)
		case impl.KInt:
			pieces = append(pieces, numPieces(n.N+1000000000)...)
		case impl.KSym:
			pieces = append(pieces, numPieces(len(n.S))...)
			pieces = append(pieces, piece{n.S, false})
		case impl.KPair:
			pieces = append(pieces, numPieces(n.A, n.B)...)
		case impl.KFun:
			pieces = append(pieces, numPieces(n.N, n.A)...)
		case impl.KKont:
			pieces = append(pieces, numPieces(n.A)...)
		}
	}
	return pieces
}

func machinePieces(m impl.Machine) []piece {
	return append(numPieces(m.At, m.State, m.Ask, m.S, m.E, m.D, m.Arg), nodePieces(m.Pool.Nodes...)...)
}

func joined(pieces []piece) string {
	s := ""
	for _, x := range pieces {
		s += x.bytes
	}
	return s
}

func numBytes(list ...int) string { return joined(numPieces(list...)) }

func nodeBytes(nodes ...impl.Node) string { return joined(nodePieces(nodes...)) }

func machineBytes(m impl.Machine) string { return joined(machinePieces(m)) }

func packedByRules(p impl.Pool, v int) string {
	kept, _ := keptByRules(p, v)
	return nodeBytes(kept.Nodes...)
}

// A looseReader takes numbers in any form, and nodes of any kind: what it reads is held against what would be written.
type looseReader struct {
	rest string
	bad  bool
}

func (r *looseReader) num() int {
	x, n := binary.Uvarint([]byte(r.rest))
	if n <= 0 {
		r.bad = true
		return 0
	}
	r.rest = r.rest[n:]
	return int(x)
}

func (r *looseReader) text() string {
	n := r.num()
	if n < 0 || n > len(r.rest) {
		r.bad = true
		return ""
	}
	s := r.rest[:n]
	r.rest = r.rest[n:]
	return s
}

func (r *looseReader) nodes() impl.Pool {
	var p impl.Pool
	count := r.num()
	for len(p.Nodes) < count && !r.bad {
		n := impl.Node{Kind: r.num()}
		switch n.Kind {
		case impl.KBool, impl.KPrim, impl.KPid:
			n.N = r.num()
		case impl.KInt:
			n.N = r.num() - 1000000000
		case impl.KSym:
			n.S = r.text()
		case impl.KPair:
			n.A = r.num()
			n.B = r.num()
		case impl.KFun:
			n.N = r.num()
			n.A = r.num()
		case impl.KKont:
			n.A = r.num()
		}
		p.Nodes = append(p.Nodes, n)
	}
	return p
}

// unpackedByRules: the pool of which the text is what is written of its last node, if there is one.
func unpackedByRules(s string) (impl.Pool, bool) {
	r := &looseReader{rest: s}
	p := r.nodes()
	if r.bad || len(p.Nodes) == 0 || !impl.PoolOk(p) || packedByRules(p, len(p.Nodes)-1) != s {
		return impl.Pool{}, false
	}
	return p, true
}

func machineUnpackedByRules(c impl.Code, s string) (impl.Machine, bool) {
	r := &looseReader{rest: s}
	var m impl.Machine
	for _, field := range []*int{&m.At, &m.State, &m.Ask, &m.S, &m.E, &m.D, &m.Arg} {
		*field = r.num()
	}
	m.Pool = r.nodes()
	if r.bad || !rightByRules(c, m) || machineBytes(tidiedByRules(m)) != s {
		return impl.Machine{}, false
	}
	return m, true
}

func askPack(t *testing.T, why string, p impl.Pool, v int, want string) {
	t.Helper()
	if s, ok := impl.ValuePack(p, v); s != want || !ok {
		t.Errorf("%s: ValuePack of %d of %d nodes tells %.200q, %v, not %.200q", why, v, len(p.Nodes), s, ok, want)
	}
}

func askNoPack(t *testing.T, why string, p impl.Pool, v int) {
	t.Helper()
	if s, ok := impl.ValuePack(p, v); s != "" || ok {
		t.Errorf("%s: ValuePack of %d of %d nodes tells %.200q, %v", why, v, len(p.Nodes), s, ok)
	}
}

func askUnpack(t *testing.T, why string, s string, want ...impl.Node) {
	t.Helper()
	if p, v, ok := impl.ValueRead(s); !slices.Equal(p.Nodes, want) || v != len(want)-1 || !ok {
		t.Errorf("%s: ValueRead of %.200q tells %+v, %d, %v, not %+v", why, s, p, v, ok, want)
	}
}

func askNoUnpack(t *testing.T, why string, s string) {
	t.Helper()
	if p, v, ok := impl.ValueRead(s); len(p.Nodes) != 0 || v != 0 || ok {
		t.Errorf("%s: ValueRead of %.200q tells %+v, %d, %v", why, s, p, v, ok)
	}
}

// askBoth asks that these nodes, of which the last one hangs on all, are written as that text, and it is read as them.
func askBoth(t *testing.T, why string, s string, nodes ...impl.Node) {
	t.Helper()
	askPack(t, why, poolOf(nodes...), len(nodes)-1, s)
	askUnpack(t, why, s, nodes...)
}

func TestPackOfEachKind(t *testing.T) {
	n, two := nilNode(), pairNode(0, 1)
	askBoth(t, "nil", "\x01\x01", n)
	askBoth(t, "false", "\x01\x02\x00", boolNode(0))
	askBoth(t, "true", "\x01\x02\x01", boolNode(1))
	askBoth(t, "a name", "\x01\x04\x01x", symNode("x"))
	askBoth(t, "a long name", "\x01\x04\x0cabcdefghijkl", symNode("abcdefghijkl"))
	askBoth(t, "a name of signs", "\x01\x04\x08+-*<=?!/", symNode("+-*<=?!/"))
	askBoth(t, "a pair of one", "\x02\x01\x05\x00\x00", n, pairNode(0, 0))
	askBoth(t, "a pair of two", "\x03\x01\x02\x01\x05\x00\x01", n, boolNode(1), two)
	askBoth(t, "and the other way", "\x03\x01\x02\x01\x05\x01\x00", n, boolNode(1), pairNode(1, 0))
	askBoth(t, "a function", "\x02\x01\x06\x11\x00", n, funNode(17, 0))
	askBoth(t, "one that begins at nought", "\x02\x01\x06\x00\x00", n, funNode(0, 0))
	askBoth(t, "one that begins far off", "\x02\x01\x06\x80\x94\xeb\xdc\x03\x00", n, funNode(1000000000, 0))
	askBoth(t, "one that knows another", "\x03\x01\x06\x08\x00\x06\x10\x01", n, funNode(8, 0), funNode(16, 1))
	askBoth(t, "what was caught", "\x02\x01\x07\x00", n, kontNode(0))
	askBoth(t, "that of that", "\x03\x01\x07\x00\x07\x01", n, kontNode(0), kontNode(1))
	askBoth(t, "what is built in", "\x01\x08\x0d", primNode(13))
	askBoth(t, "the first number", "\x01\x08\x00", primNode(0))
	askBoth(t, "the last number", "\x01\x08\x63", primNode(99))
	askBoth(t, "a process", "\x01\x09\x07", pidNode(7))
	askBoth(t, "process nought", "\x01\x09\x00", pidNode(0))
	askBoth(t, "the last process", "\x01\x09\x80\x94\xeb\xdc\x03", pidNode(1000000000))
	askBoth(t, "a number of two bytes", "\x01\x09\x80\x01", pidNode(128))
}

// Numbers are written raised by MaxInt: so the least one is nought.
func TestPackOfNumbers(t *testing.T) {
	for _, x := range []struct {
		n int
		s string
	}{
		{-impl.MaxInt, "\x00"}, {-impl.MaxInt + 1, "\x01"}, {-impl.MaxInt + 127, "\x7f"}, {-impl.MaxInt + 128, "\x80\x01"},
		{-1, "\xff\x93\xeb\xdc\x03"}, {0, "\x80\x94\xeb\xdc\x03"}, {1, "\x81\x94\xeb\xdc\x03"}, {5, "\x85\x94\xeb\xdc\x03"},
		{impl.MaxInt - 1, "\xff\xa7\xd6\xb9\x07"}, {impl.MaxInt, "\x80\xa8\xd6\xb9\x07"},
	} {
		askBoth(t, "a number", "\x01\x03"+x.s, intNode(x.n))
		askNoUnpack(t, "without all of its bytes", "\x01\x03"+x.s[:len(x.s)-1])
	}
	for _, n := range []int{-impl.MaxInt - 1, impl.MaxInt + 1, math.MinInt, math.MaxInt} {
		askNoPack(t, "no number", poolOf(intNode(n)), 0)
	}
	askNoUnpack(t, "just beyond", "\x01\x03"+numBytes(2*impl.MaxInt+1))
	askNoUnpack(t, "far beyond", "\x01\x03"+numBytes(math.MaxInt))
	askNoUnpack(t, "wrapped round", "\x01\x03\x80\x80\x80\x80\x80\x80\x80\x80\x80\x01")
	askNoUnpack(t, "wrapped round to nought", "\x01\x03\xff\xff\xff\xff\xff\xff\xff\xff\xff\x01")
}

func TestPackOfWhatShares(t *testing.T) {
	askBoth(t, "one part twice", "\x03\x04\x01a\x05\x00\x00\x05\x01\x01", symNode("a"), pairNode(0, 0), pairNode(1, 1))
	askBoth(t, "by many ways", "\x05\x01\x06\x08\x00\x05\x00\x01\x07\x02\x05\x03\x02", nilNode(), funNode(8, 0), pairNode(0, 1), kontNode(2), pairNode(3, 2))
	// Alike, but two: they stay two.
	askBoth(t, "alike", "\x03\x01\x01\x05\x00\x01", nilNode(), nilNode(), pairNode(0, 1))
	askBoth(t, "alike, the other way", "\x03\x01\x01\x05\x01\x00", nilNode(), nilNode(), pairNode(1, 0))
	tower := doubled(40)
	askBoth(t, "a tower", nodeBytes(tower.Nodes...), tower.Nodes...)
}

func TestPackLeavesOthersOut(t *testing.T) {
	p := poolOf(symNode("no"), nilNode(), pairNode(0, 1), intNode(-1), symNode("no"), pairNode(3, 1), kontNode(5), pairNode(5, 5), symNode("no"))
	askPack(t, "the list", p, 5, "\x03\x01\x03\xff\x93\xeb\xdc\x03\x05\x01\x00")
	askPack(t, "what was caught", p, 6, "\x04\x01\x03\xff\x93\xeb\xdc\x03\x05\x01\x00\x07\x02")
	askPack(t, "twice", p, 7, "\x04\x01\x03\xff\x93\xeb\xdc\x03\x05\x01\x00\x05\x02\x02")
	askPack(t, "the first", p, 0, "\x01\x04\x02no")
	askPack(t, "the last", p, 8, "\x01\x04\x02no")
	askPack(t, "one alone", p, 3, "\x01\x03\xff\x93\xeb\xdc\x03")
	for _, p := range []impl.Pool{keepPool(), mixedPool(), chain(30), doubled(12), manyNodes(200)} {
		for v := range p.Nodes {
			askPack(t, "each", p, v, packedByRules(p, v))
			kept, _ := keptByRules(p, v)
			askUnpack(t, "each", packedByRules(p, v), kept.Nodes...)
		}
	}
}

func TestPackOfNoNode(t *testing.T) {
	for _, p := range []impl.Pool{{}, manyNodes(1), mixedPool(), manyNodes(impl.MaxNodes)} {
		n := len(p.Nodes)
		for _, v := range []int{-1, -2, n, n + 1, impl.MaxNodes, math.MinInt, math.MaxInt, 1 << 32, -1 << 32} {
			askNoPack(t, "no node", p, v)
		}
	}
}

func TestPackOfBrokenPools(t *testing.T) {
	for why, p := range brokenPools() {
		for _, v := range []int{0, 1, len(p.Nodes) - 1, len(p.Nodes), -1} {
			askNoPack(t, why, p, v)
		}
		// What is wrong stands where the value does not hang on it.
		if more := poolOf(slices.Concat(manyNodes(2).Nodes, p.Nodes)...); !impl.PoolOk(more) {
			askNoPack(t, why+", behind", more, 1)
		}
	}
}

func TestPackAtTheLimit(t *testing.T) {
	last := impl.MaxNodes - 1
	for _, p := range []impl.Pool{doubled(last), chain(impl.MaxNodes)} {
		s := nodeBytes(p.Nodes...)
		askBoth(t, "as many as there may be", s, p.Nodes...)
		askNoUnpack(t, "one less told", numBytes(last)+s[2:])
		askNoUnpack(t, "one more told", numBytes(impl.MaxNodes+1)+s[2:])
	}
	many := manyNodes(impl.MaxNodes)
	askPack(t, "one of many", many, last, nodeBytes(intNode(last)))
	for _, n := range []int{impl.MaxNodes + 1, impl.MaxNodes + 2, 2 * impl.MaxNodes} {
		askNoUnpack(t, "too many", nodeBytes(doubled(n-1).Nodes...))
		askNoUnpack(t, "too many", nodeBytes(chain(n).Nodes...))
	}
}

func TestUnpackOfNothing(t *testing.T) {
	askNoUnpack(t, "the empty text", "")
	askNoUnpack(t, "no nodes", "\x00")
	askNoUnpack(t, "no nodes, and one", "\x00\x01")
	askNoUnpack(t, "no nodes, and a value", "\x00\x01\x01")
	askNoUnpack(t, "no nodes, longer", "\x80\x00")
	askNoUnpack(t, "one, and no more", "\x01")
	for b := range 256 {
		askNoUnpack(t, "one byte", string([]byte{byte(b)}))
	}
}

// valuesToRead: values of each kind, of many shapes, each as just its nodes.
func valuesToRead() [][]impl.Node {
	list := [][]impl.Node{
		{nilNode()}, {boolNode(0)}, {boolNode(1)}, {symNode("x")}, {symNode("abcdefghijkl")}, {primNode(99)}, {pidNode(300)},
		{intNode(-impl.MaxInt)}, {intNode(-1)}, {intNode(0)}, {intNode(1)}, {intNode(impl.MaxInt)},
		{nilNode(), pairNode(0, 0)}, {nilNode(), funNode(17, 0)}, {nilNode(), kontNode(0)},
		{symNode("a"), intNode(5), nilNode(), pairNode(1, 2), pairNode(0, 3)},
	}
	for _, p := range []impl.Pool{keepPool(), mixedPool()} {
		for v := range p.Nodes {
			kept, _ := keptByRules(p, v)
			list = append(list, kept.Nodes)
		}
	}
	return append(list, doubled(20).Nodes, chain(20).Nodes)
}

func TestUnpackOfOtherCounts(t *testing.T) {
	for _, nodes := range valuesToRead() {
		n := len(nodes)
		rest := nodeBytes(nodes...)[1:]
		for _, count := range []int{0, n - 1, n + 1, n + 2, 2 * n, 127, 128, impl.MaxNodes, impl.MaxNodes + 1, math.MaxInt32, math.MaxInt} {
			if count != n {
				askNoUnpack(t, fmt.Sprint(count, " of ", n), numBytes(count)+rest)
			}
		}
	}
	// The count of just the nodes ahead, which are a value: then bytes stand behind the end.
	askUnpack(t, "one", "\x01\x01", nilNode())
	askNoUnpack(t, "two, one told", "\x01\x01\x01")
	askNoUnpack(t, "two told, one there", "\x02\x01")
	askNoUnpack(t, "two told, and half of the second", "\x02\x01\x05\x00")
}

// longerForms: other bytes that would be that number, were they not longer than they need be.
func longerForms(form string) []string {
	last := len(form) - 1
	open := form[:last] + string([]byte{form[last] | 0x80})
	return []string{open + "\x00", open + "\x80\x00", open + strings.Repeat("\x80", 8) + "\x00"}
}

func TestUnpackOfLongerNumbers(t *testing.T) {
	asked := 0
	for _, nodes := range valuesToRead() {
		pieces := nodePieces(nodes...)
		askUnpack(t, "as it is", joined(pieces), nodes...)
		for i, x := range pieces {
			if !x.isNum {
				continue
			}
			for _, longer := range longerForms(x.bytes) {
				askNoUnpack(t, "longer", joined(pieces[:i])+longer+joined(pieces[i+1:]))
				asked++
			}
		}
	}
	if asked < 300 {
		t.Error("so few were asked", asked)
	}
}

func TestUnpackOfKindsThatThereAreNot(t *testing.T) {
	for _, kind := range []int{0, 10, 11, 12, 127, 128, 129, 257, 1 << 32, 1<<32 + 1, math.MaxInt} {
		for _, behind := range []string{"", "\x00", "\x01", "\x00\x00", "\x01a"} {
			askNoUnpack(t, "alone", "\x01"+numBytes(kind)+behind)
			askNoUnpack(t, "ahead of a value", "\x02"+numBytes(kind)+behind+"\x05\x00\x00")
			askNoUnpack(t, "behind one", "\x02\x01"+numBytes(kind)+behind)
		}
	}
}

func TestUnpackOfPartsThatAreNotAhead(t *testing.T) {
	ahead := []impl.Node{nilNode(), pairNode(0, 0), pairNode(1, 1)}
	for _, part := range []int{0, 1, 2, 3, 4, 5, 127, 128, impl.MaxNodes, math.MaxInt, 1 << 32} {
		for _, n := range []impl.Node{pairNode(part, 2), pairNode(2, part), pairNode(part, part), funNode(8, part), kontNode(part)} {
			nodes := append(slices.Clone(ahead), n)
			s := nodeBytes(nodes...)
			// Of those ahead only the third one hangs on all.
			if part == 2 || part < 2 && n.Kind == impl.KPair && max(n.A, n.B) == 2 {
				askUnpack(t, "ahead", s, nodes...)
			} else {
				askNoUnpack(t, "not ahead, or not all", s)
			}
		}
	}
	for _, n := range []impl.Node{pairNode(0, 0), funNode(1, 0), kontNode(0)} {
		askNoUnpack(t, "the first, of itself", nodeBytes(n))
	}
	// On what is to come, from which it is hung on.
	askNoUnpack(t, "in a ring", nodeBytes(nilNode(), pairNode(0, 2), pairNode(1, 1)))
	askNoUnpack(t, "in a ring", nodeBytes(kontNode(1), kontNode(0)))
}

func TestUnpackOfWhatNothingHangsOn(t *testing.T) {
	n, x, two := nilNode(), symNode("x"), pairNode(0, 0)
	for _, nodes := range [][]impl.Node{
		{n, n}, {n, x}, {x, n}, {n, two, n}, {n, two, x}, {n, x, two}, {x, n, pairNode(1, 1)}, {n, n, n},
		{n, two, two}, {n, two, funNode(4, 0)}, {n, two, kontNode(0)}, {n, funNode(4, 0), kontNode(1), pairNode(1, 0)},
		// What A, B or N would be, where there is none of it.
		{n, intNode(0)}, {n, boolNode(0)}, {n, primNode(0)}, {n, pidNode(0)}, {n, n, funNode(1, 0)}, {n, n, funNode(0, 1)}, {n, n, kontNode(0)},
	} {
		askNoUnpack(t, "not all is hung on", nodeBytes(nodes...))
	}
	for _, nodes := range valuesToRead() {
		var shifted []impl.Node
		for _, n := range nodes {
			if n.Kind == impl.KPair || n.Kind == impl.KFun || n.Kind == impl.KKont {
				n.A++
			}
			if n.Kind == impl.KPair {
				n.B++
			}
			shifted = append(shifted, n)
		}
		askNoUnpack(t, "one ahead", nodeBytes(append([]impl.Node{nilNode()}, shifted...)...))
		askNoUnpack(t, "one behind", nodeBytes(append(slices.Clone(nodes), nilNode())...))
		askNoUnpack(t, "itself behind", nodeBytes(append(slices.Clone(nodes), nodes[len(nodes)-1])...))
	}
}

func TestUnpackOfBounds(t *testing.T) {
	for _, x := range []struct {
		why       string
		begin     string
		most      int
		end       string
		of        func(n int) impl.Node
		withAhead bool
	}{
		{"a bool", "\x01\x02", 1, "", boolNode, false},
		{"what is built in", "\x01\x08", 99, "", primNode, false},
		{"a process", "\x01\x09", impl.MaxInt, "", pidNode, false},
		{"a number", "\x01\x03", 2 * impl.MaxInt, "", func(n int) impl.Node { return intNode(n - impl.MaxInt) }, false},
		{"a function", "\x02\x01\x06", impl.MaxInt, "\x00", func(n int) impl.Node { return funNode(n, 0) }, true},
	} {
		for _, n := range []int{0, 1, x.most / 2, x.most - 1, x.most} {
			nodes := []impl.Node{x.of(n)}
			if x.withAhead {
				nodes = []impl.Node{nilNode(), x.of(n)}
			}
			askBoth(t, x.why, x.begin+numBytes(n)+x.end, nodes...)
		}
		for _, n := range []int{x.most + 1, x.most + 2, x.most + 128, 3 * impl.MaxInt, 1 << 32, 1<<32 + 1, 1 << 62, math.MaxInt - 1, math.MaxInt} {
			askNoUnpack(t, x.why, x.begin+numBytes(n)+x.end)
		}
	}
}

func TestUnpackOfNames(t *testing.T) {
	for n := range 30 {
		name := strings.Repeat("a", n)
		s := "\x01\x04" + numBytes(n) + name
		if n >= 1 && n <= 12 {
			askBoth(t, "a name", s, symNode(name))
		} else {
			askNoUnpack(t, "no name", s)
		}
		askNoUnpack(t, "a byte less", "\x01\x04"+numBytes(n+1)+name)
	}
	for b := range 256 {
		for _, name := range []string{string([]byte{byte(b)}), "ab" + string([]byte{byte(b)}), string([]byte{byte(b)}) + "ab"} {
			s := "\x01\x04" + numBytes(len(name)) + name
			if impl.NameOk(name) {
				askBoth(t, "a name", s, symNode(name))
			} else {
				askNoUnpack(t, "no name", s)
			}
		}
	}
	for _, n := range []int{127, 128, 1 << 32, math.MaxInt - 1, math.MaxInt} {
		askNoUnpack(t, "longer than all", "\x01\x04"+numBytes(n)+"abc")
	}
	askNoUnpack(t, "a great text", "\x01\x04"+numBytes(100000)+strings.Repeat("a", 100000))
}

func TestUnpackOfWhatIsCutShort(t *testing.T) {
	for _, nodes := range valuesToRead() {
		s := nodeBytes(nodes...)
		for at := range len(s) {
			askNoUnpack(t, "cut short", s[:at])
			askUnpackByRules(t, s[at+1:])
		}
		for b := range 256 {
			askNoUnpack(t, "a byte behind the end", s+string([]byte{byte(b)}))
		}
		askNoUnpack(t, "twice", s+s)
		askNoUnpack(t, "many behind", s+strings.Repeat("\x01", 500))
	}
}

// askUnpackByRules asks of any text, and that what is read is written as that text.
func askUnpackByRules(t *testing.T, s string) bool {
	t.Helper()
	want, right := unpackedByRules(s)
	p, v, ok := impl.ValueRead(s)
	if ok != right || !sameNodes(p, want) || v != max(0, len(want.Nodes)-1) {
		t.Fatalf("ValueRead of %.200q tells %+v, %d, %v, not %+v, %v", s, p, v, ok, want, right)
	}
	if again, fine := impl.ValuePack(p, v); ok && (again != s || !fine) {
		t.Fatalf("%.200q is read as %+v, and written again as %q", s, p, again)
	}
	return ok
}

// turned: texts that differ from this one by a byte that is another one, or that is missing, or that is there twice.
func turned(s string, ask func(s string)) {
	for at := range len(s) {
		ask(s[:at] + s[at+1:])
		ask(s[:at] + s[at:at+1] + s[at:])
		for b := range 256 {
			ask(s[:at] + string([]byte{byte(b)}) + s[at+1:])
		}
	}
}

func TestUnpackOfOneByteTurned(t *testing.T) {
	read, refused := 0, 0
	for _, nodes := range valuesToRead() {
		turned(nodeBytes(nodes...), func(s string) {
			if askUnpackByRules(t, s) {
				read++
			} else {
				refused++
			}
		})
	}
	if read < 1000 || refused < 10000 {
		t.Errorf("%d were read, %d refused", read, refused)
	}
}

// No other bytes are read: all texts of a few bytes.
func TestUnpackOfAllShortTexts(t *testing.T) {
	read := 0
	var all func(s string, bytes string, most int)
	all = func(s string, bytes string, most int) {
		if askUnpackByRules(t, s) {
			read++
		}
		if len(s) == most {
			return
		}
		for i := range len(bytes) {
			all(s+bytes[i:i+1], bytes, most)
		}
	}
	every := make([]byte, 256)
	for b := range every {
		every[b] = byte(b)
	}
	all("", string(every), 2)
	all("", "\x00\x01\x02\x03\x04\x05\x06\x07\x08\x09az\x80", 5)
	all("", "\x00\x01\x02\x03\x05\x07", 7)
	if read < 200 {
		t.Error("so few were read", read)
	}
}

// Promise 8, of values.
func TestValuesAreReadAsTheyWere(t *testing.T) {
	r := &aRandom{x: 83}
	left, shared := 0, 0
	for range 4000 {
		p := r.pool(1 + r.below(20))
		r.numbersAmong(p)
		v := r.below(len(p.Nodes))
		s, ok := impl.ValuePack(p, v)
		if !ok || s != packedByRules(p, v) {
			t.Fatalf("ValuePack of %d of %+v tells %q, %v", v, p, s, ok)
		}
		kept, now := impl.Keep(p, []int{v})
		q, at, ok := impl.ValueRead(s)
		if !ok || !sameNodes(q, kept) || at != now[0] || at != len(q.Nodes)-1 {
			t.Fatalf("%d of %+v is read as %d of %+v, %v", v, p, at, q, ok)
		}
		if wholeTold(q, at) != wholeTold(p, v) || impl.Write(q, at) != impl.Write(p, v) || impl.SizeOf(q, at) != impl.SizeOf(p, v) {
			t.Fatalf("%d of %+v is read as another one: %d of %+v", v, p, at, q)
		}
		if both, there := impl.Copy(p, q, at); !impl.Same(both, v, there) {
			t.Fatalf("%d of %+v is not alike to what is read of it", v, p)
		}
		if again, ok := impl.ValuePack(q, at); again != s || !ok {
			t.Fatalf("%q is written again as %q", s, again)
		}
		if len(q.Nodes) > 2 && len(q.Nodes) < len(p.Nodes) {
			left++
		}
		if impl.SizeOf(q, at) > len(q.Nodes) {
			shared++
		}
	}
	if left < 300 || shared < 200 {
		t.Errorf("so few left something out, or shared: %d, %d", left, shared)
	}
}

func TestTextsGoElsewhere(t *testing.T) {
	for _, text := range []string{"()", "#t", "#f", "-5", "1000000000", "-1000000000", "abc", "(a (b c) () ((-1)) #t)", "(quote (fn (x) (x x)))"} {
		p, list, _, _ := impl.Read(mixedPool(), text)
		s, ok := impl.ValuePack(p, list[0])
		q, v, fine := impl.ValueRead(s)
		if !ok || !fine || impl.Write(q, v) != text {
			t.Errorf("%s comes as %s", text, impl.Write(q, v))
		}
	}
}

func askMachinePack(t *testing.T, why string, c impl.Code, m impl.Machine, want string) {
	t.Helper()
	if s, ok := impl.MachinePack(c, m); s != want || !ok {
		t.Errorf("%s: MachinePack of %s\ntells %.300q, %v, not %.300q", why, toldMachine(m, 0), s, ok, want)
	}
}

func askNoMachinePack(t *testing.T, why string, c impl.Code, m impl.Machine) {
	t.Helper()
	if s, ok := impl.MachinePack(c, m); s != "" || ok {
		t.Errorf("%s: MachinePack of %s\ntells %.300q, %v", why, toldMachine(m, 0), s, ok)
	}
}

func askMachineUnpack(t *testing.T, why string, c impl.Code, s string, want impl.Machine) {
	t.Helper()
	if m, ok := impl.MachineRead(c, s); !sameMachine(m, want) || !ok {
		t.Errorf("%s: MachineRead of %.300q\ntells %v, %s\nnot %s", why, s, ok, toldMachine(m, 0), toldMachine(want, 0))
	}
}

func askNoMachineUnpack(t *testing.T, why string, c impl.Code, s string) {
	t.Helper()
	if m, ok := impl.MachineRead(c, s); !sameMachine(m, impl.Machine{}) || ok {
		t.Errorf("%s: MachineRead of %.300q\ntells %v, %s", why, s, ok, toldMachine(m, 0))
	}
}

func TestMachinePackInEachState(t *testing.T) {
	c, machines := machinesToAsk()
	nodes := "\x04\x01\x05\x00\x00\x08\x0d\x05\x02\x00"
	// A machine that runs or fails hangs on no Arg, and this one not on all of its nodes but by its lists.
	for i, want := range []string{
		"\x00\x00\x00\x03\x01\x00\x00" + nodes,
		"\x02\x01\x0d\x03\x01\x00\x01" + nodes,
		"\x00\x02\x00\x03\x01\x00\x02" + nodes,
		"\x00\x03\x04\x03\x01\x00\x00" + nodes,
	} {
		askMachinePack(t, fmt.Sprint("state ", i), c, machines[i], want)
		askMachineUnpack(t, fmt.Sprint("state ", i), c, want, machines[i])
	}
	// The order of the seven: no two of them are one number.
	m := impl.Machine{Pool: poolOf(nilNode(), kontNode(0), kontNode(1), kontNode(2), kontNode(3), kontNode(4)), At: 2, State: impl.MsAsk, Ask: 19, S: 3, E: 4, D: 5, Arg: 0}
	want := "\x02\x01\x13\x03\x04\x05\x00\x06\x01\x07\x00\x07\x01\x07\x02\x07\x03\x07\x04"
	askMachinePack(t, "all seven", c, m, want)
	askMachineUnpack(t, "all seven", c, want, m)
}

// rightClutter: cluttered machines that are right, one in each state, and the code.
func rightClutter() (impl.Code, []impl.Machine) {
	c, _ := machinesToAsk()
	run := cluttered()
	run.Arg = 0
	ask, done, fail := cluttered(), cluttered(), run
	ask.State, ask.Ask, ask.At = impl.MsAsk, 16, 1
	done.State = impl.MsDone
	fail.State, fail.Ask = impl.MsFail, impl.FlFull
	run.At = 2
	return c, []impl.Machine{run, ask, done, fail}
}

func TestMachinePackLeavesOthersOut(t *testing.T) {
	c, machines := rightClutter()
	kept := "\x01\x03\x84\x94\xeb\xdc\x03\x05\x01\x00\x05\x02\x00\x04\x03top\x05\x04\x02\x06\x08\x03\x05\x06\x00"
	withArg := kept + "\x09\x01\x07\x08"
	for i, want := range []string{
		"\x02\x00\x00\x05\x03\x07\x00\x08" + kept,
		"\x01\x01\x10\x05\x03\x07\x09\x0a" + withArg,
		"\x00\x02\x00\x05\x03\x07\x09\x0a" + withArg,
		"\x00\x03\x06\x05\x03\x07\x00\x08" + kept,
	} {
		askMachinePack(t, fmt.Sprint("state ", i), c, machines[i], want)
		askMachineUnpack(t, fmt.Sprint("state ", i), c, want, impl.Tidy(machines[i]))
		askNoMachineUnpack(t, "not tidied", c, machineBytes(machines[i]))
	}
	// The greatest pools: of one only three nodes are needed, of the other all.
	many := impl.Machine{Pool: manyNodes(impl.MaxNodes), S: 2999, E: 0, D: 50}
	askMachinePack(t, "three of many", c, many, "\x00\x00\x00\x02\x00\x01\x00"+nodeBytes(intNode(0), intNode(50), intNode(2999)))
	whole := impl.Machine{Pool: chain(impl.MaxNodes), S: 2999, E: 2, D: 1}
	askMachinePack(t, "all of many", c, whole, machineBytes(whole))
	askMachineUnpack(t, "all of many", c, machineBytes(whole), whole)
	more := impl.Machine{Pool: chain(impl.MaxNodes + 1), S: 3000, E: 2, D: 1}
	askNoMachinePack(t, "one too many", c, more)
	askNoMachineUnpack(t, "one too many", c, machineBytes(more))
}

func TestMachinePackOfWhatIsNotRight(t *testing.T) {
	c, machines := machinesToAsk()
	ask := func(why string, c impl.Code, m impl.Machine) {
		t.Helper()
		askNoMachinePack(t, why, c, m)
		if m.At >= 0 && m.State >= 0 && m.Ask >= 0 && m.S >= 0 && m.E >= 0 && m.D >= 0 && m.Arg >= 0 {
			askNoMachineUnpack(t, why, c, machineBytes(m))
		}
	}
	for _, m := range machines {
		for why, b := range brokenCodes() {
			ask(why, b, m)
		}
		if m.State == impl.MsRun || m.State == impl.MsAsk {
			ask("a code without places", impl.Code{}, m)
		}
		for why, p := range brokenPools() {
			n := m
			n.Pool = p
			ask(why, c, n)
			n.Pool = poolOf(slices.Concat(m.Pool.Nodes, p.Nodes)...)
			if !impl.PoolOk(n.Pool) {
				ask(why+", behind", c, n)
			}
		}
		for _, x := range []int{-1, 4, 5, 127, 128, impl.MaxNodes, math.MaxInt, math.MinInt} {
			for i := range 5 {
				n := m
				*[]*int{&n.S, &n.E, &n.D, &n.State, &n.Arg}[i] = x
				ask("no node, or no state", c, n)
			}
			for _, at := range []int{3, x} {
				n := m
				n.At = at
				ask("no place", c, n)
			}
			for _, asked := range []int{8, 12, 18, 20, 128, -1, 1 << 32, math.MaxInt} {
				n := m
				n.Ask = asked
				ask("nothing to ask", c, n)
			}
		}
	}
	ask("zero", impl.Code{}, impl.Machine{})
	ask("zero", c, impl.Machine{})
	ask("what comes of what is not right", c, noMachine())
}

// What one code lets be, another one may not.
func TestMachineUnpackForAnotherCode(t *testing.T) {
	long := codeFrom(impl.Pool{}, "jump 1, pop, pop, pop, back")
	short := codeFrom(impl.Pool{}, "jump 1, pop, back")
	for at := range 6 {
		for _, m := range []impl.Machine{
			{Pool: poolOf(nilNode()), At: at},
			{Pool: poolOf(nilNode()), At: at, State: impl.MsAsk, Ask: 14},
		} {
			s := machineBytes(m)
			for _, c := range []impl.Code{long, short} {
				if at < len(c.List) {
					askMachinePack(t, "a place", c, m, s)
					askMachineUnpack(t, "a place", c, s, m)
				} else {
					askNoMachinePack(t, "no place", c, m)
					askNoMachineUnpack(t, "no place", c, s)
				}
			}
		}
	}
	for _, state := range []int{impl.MsDone, impl.MsFail} {
		for at := range 3 {
			m := impl.Machine{Pool: poolOf(nilNode()), At: at, State: state}
			if state == impl.MsFail {
				m.Ask = 1
			}
			if at == 0 {
				askMachineUnpack(t, "it is nowhere", short, machineBytes(m), m)
			} else {
				askNoMachineUnpack(t, "it is nowhere any more", short, machineBytes(m))
			}
		}
	}
}

func TestMachineUnpackOfWhatIsNotTidied(t *testing.T) {
	c, _ := machinesToAsk()
	nodes := poolOf(nilNode(), intNode(1), pairNode(1, 0), pairNode(2, 0), symNode("x"))
	for _, m := range []impl.Machine{
		{Pool: nodes, S: 2, E: 3, D: 0},
		{Pool: nodes, S: 0, E: 0, D: 4},
		{Pool: nodes, S: 3, E: 3, D: 3, State: impl.MsDone, Arg: 2},
		{Pool: nodes, S: 2, E: 2, D: 2, State: impl.MsAsk, Ask: 13, Arg: 4},
		{Pool: nodes, S: 3, E: 3, D: 3, State: impl.MsFail, Ask: 4},
		// Where Arg is no value its 0 is no node that is needed.
		{Pool: poolOf(symNode("x"), nilNode()), S: 1, E: 1, D: 1},
		{Pool: poolOf(symNode("x"), nilNode()), S: 1, E: 1, D: 1, State: impl.MsFail, Ask: 4},
	} {
		if !impl.MachineOk(c, m) || sameMachine(impl.Tidy(m), m) {
			t.Fatal("it should be right, but not tidied", toldMachine(m, 0))
		}
		askNoMachineUnpack(t, "not tidied", c, machineBytes(m))
		askMachineUnpack(t, "tidied", c, machineBytes(impl.Tidy(m)), impl.Tidy(m))
	}
	// Each list, and Arg, holds what hangs on nothing else.
	for _, m := range []impl.Machine{
		{Pool: nodes, S: 4, E: 3, D: 0}, {Pool: nodes, S: 3, E: 4, D: 0}, {Pool: nodes, S: 0, E: 3, D: 4},
		{Pool: nodes, S: 3, E: 0, D: 0, State: impl.MsDone, Arg: 4}, {Pool: nodes, S: 4, E: 4, D: 4, State: impl.MsAsk, Ask: 13, Arg: 3},
	} {
		askMachinePack(t, "all is hung on", c, m, machineBytes(m))
		askMachineUnpack(t, "all is hung on", c, machineBytes(m), m)
	}
}

// machinesToRead: tidied ones in each state, for one code.
func machinesToRead() (impl.Code, []impl.Machine) {
	c, list := machinesToAsk()
	_, clutter := rightClutter()
	for _, m := range clutter {
		list = append(list, impl.Tidy(m))
	}
	return c, append(list, impl.Machine{Pool: poolOf(nilNode()), At: 2}, impl.Machine{Pool: mixedPool(), S: 16, E: 15, D: 10, State: impl.MsAsk, At: 1, Ask: 17, Arg: 7})
}

func TestMachineUnpackOfLongerNumbers(t *testing.T) {
	c, machines := machinesToRead()
	for _, m := range machines {
		m = impl.Tidy(m)
		pieces := machinePieces(m)
		askMachineUnpack(t, "as it is", c, joined(pieces), m)
		for i, x := range pieces {
			if !x.isNum {
				continue
			}
			for _, longer := range longerForms(x.bytes) {
				askNoMachineUnpack(t, "longer", c, joined(pieces[:i])+longer+joined(pieces[i+1:]))
			}
		}
	}
}

func TestMachineUnpackOfWhatIsCutShort(t *testing.T) {
	c, machines := machinesToRead()
	askNoMachineUnpack(t, "the empty text", c, "")
	askNoMachineUnpack(t, "no nodes", c, strings.Repeat("\x00", 8))
	for _, m := range machines {
		s := machineBytes(impl.Tidy(m))
		for at := range len(s) {
			askNoMachineUnpack(t, "cut short", c, s[:at])
		}
		for b := range 256 {
			askNoMachineUnpack(t, "a byte behind the end", c, s+string([]byte{byte(b)}))
		}
		askNoMachineUnpack(t, "twice", c, s+s)
	}
	// A value is no machine, and a machine no value.
	for _, nodes := range valuesToRead() {
		s := nodeBytes(nodes...)
		if m, ok := machineUnpackedByRules(c, s); ok {
			askMachineUnpack(t, "a value", c, s, m)
		} else {
			askNoMachineUnpack(t, "a value", c, s)
		}
	}
}

func askMachineUnpackByRules(t *testing.T, c impl.Code, s string) bool {
	t.Helper()
	want, right := machineUnpackedByRules(c, s)
	m, ok := impl.MachineRead(c, s)
	if ok != right || !sameMachine(m, want) {
		t.Fatalf("MachineRead of %.300q\ntells %v, %s\nnot %v, %s", s, ok, toldMachine(m, 0), right, toldMachine(want, 0))
	}
	if again, fine := impl.MachinePack(c, m); ok && (again != s || !fine || !sameMachine(impl.Tidy(m), m)) {
		t.Fatalf("%.300q is read as %s\nand written again as %q", s, toldMachine(m, 0), again)
	}
	return ok
}

func TestMachineUnpackOfOneByteTurned(t *testing.T) {
	c, machines := machinesToRead()
	read, refused := 0, 0
	for _, m := range machines {
		turned(machineBytes(impl.Tidy(m)), func(s string) {
			if askMachineUnpackByRules(t, c, s) {
				read++
			} else {
				refused++
			}
		})
	}
	if read < 500 || refused < 5000 {
		t.Errorf("%d were read, %d refused", read, refused)
	}
}

// No other bytes are read: all numbers that a machine of few nodes may begin with, and some that it may not.
func TestMachineUnpackOfAllBeginnings(t *testing.T) {
	c := codeFrom(impl.Pool{}, "jump 1, back")
	read := 0
	for _, nodes := range [][]impl.Node{{nilNode()}, {boolNode(1), nilNode()}, {nilNode(), kontNode(0)}, {nilNode(), boolNode(1), pairNode(0, 0)}} {
		for _, ask := range []int{0, 1, 7, 8, 12, 13, 17, 18, 19, 20} {
			for i := range 4 * 5 * 4 * 4 * 4 * 4 {
				m := impl.Machine{Pool: poolOf(nodes...), Ask: ask}
				for field, most := range []int{4, 5, 4, 4, 4, 4} {
					*[]*int{&m.At, &m.State, &m.S, &m.E, &m.D, &m.Arg}[field] = i % most
					i /= most
				}
				if askMachineUnpackByRules(t, c, machineBytes(m)) {
					read++
				}
			}
		}
	}
	if read < 500 {
		t.Error("so few were read", read)
	}
}

// Promise 8, of machines.
func TestMachinesAreReadAsTheyWere(t *testing.T) {
	r := &aRandom{x: 89}
	states, left := map[int]int{}, 0
	for range 6000 {
		c := r.someCode()
		m := r.someMachine(c)
		for range r.below(3) {
			m = impl.Step(c, m)
		}
		if r.below(4) == 0 {
			m = impl.Machine{Pool: m.Pool, S: m.S, E: m.E, D: m.D, State: impl.MsDone, Arg: r.below(len(m.Pool.Nodes))}
		}
		tidied := impl.Tidy(m)
		s, ok := impl.MachinePack(c, m)
		if !ok || s != machineBytes(tidiedByRules(m)) {
			t.Fatalf("MachinePack of %s\ntells %q, %v", toldMachine(m, 0), s, ok)
		}
		n, ok := impl.MachineRead(c, s)
		if !ok || !sameMachine(n, tidied) {
			t.Fatalf("%s\nis read as %v, %s", toldMachine(m, 0), ok, toldMachine(n, 0))
		}
		if again, _ := impl.MachinePack(c, n); again != s {
			t.Fatalf("%q is written again as %q", s, again)
		}
		states[m.State]++
		if len(n.Pool.Nodes) < len(m.Pool.Nodes) {
			left++
		}
	}
	for state := range 4 {
		if states[state] < 50 {
			t.Errorf("only %d of state %d", states[state], state)
		}
	}
	if left < 1000 {
		t.Error("so few left something out", left)
	}
}

// A program that is written and read behind each step goes the same way.
func TestProgramsThatGoElsewhere(t *testing.T) {
	for _, x := range []struct{ text, want string }{
		{"(define (fact n) (if (< n 2) 1 (* n (fact (- n 1))))) (fact 10)", "3628800"},
		{"(define (map f l) (if (null? l) () (cons (f (car l)) (map f (cdr l))))) (map (fn (x) (- 0 x)) (quote (1 2 3)))", "(-1 -2 -3)"},
		{"(define (loop n k) (if (= n 0) (k 42) (+ 1 (loop (- n 1) k)))) (callcc (fn (k) (loop 10 k)))", "42"},
		{"(let k (callcc (fn (k) k)) (if (pair? k) (car k) (k (quote (7)))))", "7"},
		{"(cons (recv) (cons (print 5) (self)))", "((8) (8) 8)"},
		{"(car 5)", ""},
	} {
		c := programOf(t, x.text)
		plain, _ := impl.MachineNew(c, "main")
		sent := plain
		for {
			s, ok := impl.MachinePack(c, sent)
			fromPlain, _ := impl.MachinePack(c, plain)
			read, fine := impl.MachineRead(c, s)
			if !ok || !fine || s != fromPlain || !sameMachine(read, impl.Tidy(plain)) {
				t.Fatalf("%s: %s\nis read as %s", x.text, toldMachine(plain, 0), toldMachine(read, 0))
			}
			sent = read
			if plain.State == impl.MsAsk {
				answer := poolOf(symNode("no"), intNode(8), nilNode(), pairNode(1, 2))
				plain, sent = impl.Answer(c, plain, answer, 3), impl.Answer(c, sent, answer, 3)
			} else if plain.State == impl.MsRun {
				plain, sent = impl.Step(c, plain), impl.Step(c, sent)
			} else {
				break
			}
		}
		if x.want != "" && (sent.State != impl.MsDone || impl.Write(sent.Pool, sent.Arg) != x.want) {
			t.Errorf("%s comes to %s", x.text, toldMachine(sent, 0))
		}
	}
}

func TestNothingIsWrittenByPack(t *testing.T) {
	for _, p := range poolsToAsk() {
		for _, v := range []int{0, 1, 10, len(p.Nodes) - 1, len(p.Nodes), -1} {
			pool, whole := roomy(p)
			before := slices.Clone(whole)
			s, ok := impl.ValuePack(pool, v)
			if !slices.Equal(whole, before) {
				t.Errorf("ValuePack of %d of %d nodes writes into them", v, len(p.Nodes))
			}
			kept := strings.Clone(s)
			spoilNodes(impl.Pool{Nodes: whole})
			if again, fine := impl.ValuePack(p, v); s != kept || again != kept || fine != ok {
				t.Errorf("ValuePack of %d of %d nodes tells something else then", v, len(p.Nodes))
			}
		}
	}
}

func TestNothingIsSharedByUnpack(t *testing.T) {
	for _, nodes := range valuesToRead() {
		s := nodeBytes(nodes...)
		first, _, _ := impl.ValueRead(s)
		second, _, _ := impl.ValueRead(s)
		spoilNodes(second)
		if !slices.Equal(first.Nodes, nodes) || s != nodeBytes(nodes...) {
			t.Errorf("ValueRead of %q: two answers share memory", s)
		}
		askUnpack(t, "again", s, nodes...)
	}
}

func TestNothingIsWrittenByMachinePack(t *testing.T) {
	for _, f := range stepsToAsk() {
		askMemory(t, "MachinePack, "+f.why, f, impl.Pool{}, func(c impl.Code, m impl.Machine, _ impl.Pool) impl.Machine {
			s, ok := impl.MachinePack(c, m)
			if !ok {
				return impl.Machine{}
			}
			return impl.Machine{Pool: poolOf(symNode(s))}
		})
		s, _ := impl.MachinePack(f.code, f.m)
		askMemory(t, "MachineRead, "+f.why, f, impl.Pool{}, func(c impl.Code, _ impl.Machine, _ impl.Pool) impl.Machine {
			m, _ := impl.MachineRead(c, s)
			return m
		})
	}
}
