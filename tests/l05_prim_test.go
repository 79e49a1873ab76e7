package tests

import (
	"math"
	"math/big"
	"slices"
	"strconv"
	"strings"
	"sync"
	"testing"

	"loop.example/g00189/impl"
)

// builtIn: what is built in, in the order of its numbers: the name, and how many values it takes.
func builtIn() []struct {
	name  string
	takes int
} {
	return []struct {
		name  string
		takes int
	}{
		{"+", 2}, {"-", 2}, {"*", 2}, {"<", 2}, {"=", 2}, {"cons", 2}, {"car", 1}, {"cdr", 1}, {"null?", 1}, {"pair?", 1},
		{"eq?", 2}, {"not", 1}, {"print", 1}, {"self", 0}, {"send", 2}, {"recv", 0}, {"spawn", 1}, {"callcc", 1}, {"go", 1},
	}
}

// numberOf is told by the test itself, so that a fault of PrimOf is no fault of each other test.
func numberOf(name string) int {
	for i, b := range builtIn() {
		if b.name == name {
			return i + 1
		}
	}
	panic("no such name: " + name)
}

func nameOf(n int) string {
	if n < 1 || n > len(builtIn()) {
		return "number " + strconv.Itoa(n)
	}
	return builtIn()[n-1].name
}

// An end is what PrimDo tells.
type anEnd struct {
	pool impl.Pool
	v    int
	how  int
}

func done(p impl.Pool, n int, args []int) anEnd {
	q, v, how := impl.PrimDo(p, n, args)
	return anEnd{q, v, how}
}

func (a anEnd) equal(b anEnd) bool {
	return a.v == b.v && a.how == b.how && sameNodes(a.pool, b.pool)
}

// notDone: the answer that goes with that code.
func notDone(p impl.Pool, how int) anEnd {
	if how == impl.PmBad {
		return anEnd{how: how, v: -1}
	}
	return anEnd{pool: p, v: -1, how: how}
}

// newBehind: the answer that makes one node.
func newBehind(p impl.Pool, n impl.Node) anEnd {
	q := copyOf(p)
	q.Nodes = append(q.Nodes, n)
	return anEnd{pool: q, v: len(p.Nodes)}
}

func truthNode(holds bool) impl.Node {
	if holds {
		return boolNode(1)
	}
	return boolNode(0)
}

func askDone(t *testing.T, why string, p impl.Pool, n int, args []int, want anEnd) {
	t.Helper()
	got := done(p, n, args)
	if got.equal(want) {
		return
	}
	if len(p.Nodes) > 20 {
		t.Errorf("%s: %s of %v in %d nodes: code %d, value %d, %d nodes; asked: code %d, value %d, %d nodes",
			why, nameOf(n), args, len(p.Nodes), got.how, got.v, len(got.pool.Nodes), want.how, want.v, len(want.pool.Nodes))
		return
	}
	t.Errorf("%s: %s of %v in %+v: code %d, value %d, %+v; asked: code %d, value %d, %+v", why, nameOf(n), args, p, got.how, got.v, got.pool, want.how, want.v, want.pool)
}

func askRefusal(t *testing.T, why string, p impl.Pool, n int, args []int, how int) {
	t.Helper()
	askDone(t, why, p, n, args, notDone(p, how))
}

// kindsPool: a node of each kind at the place of its number less one; two pairs and both truths, too.
func kindsPool() impl.Pool {
	return poolOf(nilNode(), boolNode(0), intNode(5), symNode("x"), pairNode(2, 0), funNode(16, 0), kontNode(4), primNode(3), pidNode(9), boolNode(1), pairNode(3, 4))
}

func TestPrimCodes(t *testing.T) {
	codes := []int{impl.PmDone, impl.PmBad, impl.PmOuter, impl.PmType, impl.PmLimit, impl.PmFull}
	if !slices.Equal(codes, []int{0, 1, 2, 3, 4, 5}) || impl.Prims != 19 || len(builtIn()) != impl.Prims {
		t.Error("codes", codes, impl.Prims)
	}
}

func TestPrimNamesAndNumbers(t *testing.T) {
	for i, b := range builtIn() {
		n := i + 1
		if got := impl.PrimOf(b.name); got != n {
			t.Errorf("PrimOf(%q) is %d, not %d", b.name, got, n)
		}
		if got := impl.PrimName(n); got != b.name {
			t.Errorf("PrimName(%d) is %q, not %q", n, got, b.name)
		}
		if got := impl.PrimArgs(n); got != b.takes {
			t.Errorf("PrimArgs(%d) is %d, not %d", n, got, b.takes)
		}
	}
}

// Promise 5: each name has a number whose name it is, and no two have one.
func TestNamesHaveNumbers(t *testing.T) {
	met := map[string]int{}
	for n := 1; n <= impl.Prims; n++ {
		name := impl.PrimName(n)
		if !impl.NameOk(name) || impl.PrimOf(name) != n {
			t.Errorf("the name of %d is %q, whose number is %d", n, name, impl.PrimOf(name))
		}
		if met[name] > 0 {
			t.Errorf("%d and %d have one name, %q", met[name], n, name)
		}
		met[name] = n
	}
}

func TestNamesThatAreNotBuiltIn(t *testing.T) {
	names := []string{"", "x", "CAR", "Cons", "ca", "carr", "null", "pair", "eq", "eq!", "/", "!", "?", ">", "<=", "==", "++", "call/cc", "main", "quote", "if", "fn", "do", "let", "define", "0", "1", "19", "#t", "é", "\x00", "\xff", strings.Repeat("+", 5000)}
	for _, b := range builtIn() {
		names = append(names, " "+b.name, b.name+" ", b.name+"\x00", "\x00"+b.name, b.name+b.name, b.name+"a", "("+b.name+")", b.name[1:], b.name[:len(b.name)-1], strings.ToUpper(b.name)+"A")
	}
	for _, name := range names {
		if got := impl.PrimOf(name); got != 0 {
			t.Errorf("PrimOf(%q) is %d", name, got)
		}
	}
}

func TestNumbersThatAreNotBuiltIn(t *testing.T) {
	for _, n := range []int{0, -1, 20, -2, 21, -19, -18, 99, 100, 1 << 32, 1<<32 + 1, 1<<32 + 19, math.MinInt, math.MinInt + 1, math.MaxInt} {
		if name, takes := impl.PrimName(n), impl.PrimArgs(n); name != "" || takes != -1 {
			t.Errorf("the number %d: %q, %d", n, name, takes)
		}
	}
}

// What is built in may be asked for by many at once, ahead of all else, too.
func TestNamesAreAskedForAtOnce(t *testing.T) {
	var wg sync.WaitGroup
	ends := make([]bool, 16)
	for i := range ends {
		wg.Go(func() {
			ends[i] = impl.PrimOf("go") == 19 && impl.PrimName(19) == "go" && impl.PrimArgs(6) == 2 && done(poolOf(intNode(2)), 3, []int{0, 0}).how == impl.PmDone
		})
	}
	wg.Wait()
	if slices.Contains(ends, false) {
		t.Error("one was told something else", ends)
	}
}

func TestSumsDifferencesProducts(t *testing.T) {
	for _, c := range []struct{ a, b, sum, difference, product int }{
		{7, 3, 10, 4, 21}, {3, 7, 10, -4, 21}, {-7, 3, -4, -10, -21}, {7, -3, 4, 10, -21}, {-7, -3, -10, -4, 21},
		{0, 0, 0, 0, 0}, {0, 9, 9, -9, 0}, {9, 0, 9, 9, 0}, {1, 1, 2, 0, 1}, {-1, 1, 0, -2, -1},
		{impl.MaxInt, 0, impl.MaxInt, impl.MaxInt, 0}, {-impl.MaxInt, 0, -impl.MaxInt, -impl.MaxInt, 0}, {31622, 31622, 63244, 0, 999950884},
	} {
		p := poolOf(symNode("x"), intNode(c.a), nilNode(), intNode(c.b))
		askDone(t, "sum", p, numberOf("+"), []int{1, 3}, newBehind(p, intNode(c.sum)))
		askDone(t, "difference", p, numberOf("-"), []int{1, 3}, newBehind(p, intNode(c.difference)))
		askDone(t, "product", p, numberOf("*"), []int{1, 3}, newBehind(p, intNode(c.product)))
	}
}

func TestNumbersAtTheLimit(t *testing.T) {
	const m = impl.MaxInt
	for _, c := range []struct {
		name string
		a    int
		b    int
		want int
	}{
		{"+", m, 0, m}, {"+", m - 5, 5, m}, {"+", 5, m - 5, m}, {"+", 500000000, 500000000, m},
		{"+", -m, 0, -m}, {"+", 5 - m, -5, -m}, {"+", -5, 5 - m, -m}, {"+", -500000000, -500000000, -m},
		{"-", m, 0, m}, {"-", m - 5, -5, m}, {"-", 0, -m, m}, {"-", -1, -m, m - 1}, {"-", 500000000, -500000000, m},
		{"-", -m, 0, -m}, {"-", 5 - m, 5, -m}, {"-", 0, m, -m}, {"-", -1, m - 1, -m}, {"-", -500000000, 500000000, -m},
		{"*", m, 1, m}, {"*", 1, m, m}, {"*", -m, -1, m}, {"*", 50000, 20000, m}, {"*", -50000, -20000, m}, {"*", 500000000, 2, m},
		{"*", -1, m, -m}, {"*", m, -1, -m}, {"*", -m, 1, -m}, {"*", -50000, 20000, -m}, {"*", 50000, -20000, -m}, {"*", 2, -500000000, -m},
	} {
		p := poolOf(intNode(c.a), intNode(c.b))
		askDone(t, "at the limit", p, numberOf(c.name), []int{0, 1}, newBehind(p, intNode(c.want)))
	}
}

func TestNumbersBeyondTheLimit(t *testing.T) {
	const m = impl.MaxInt
	for _, c := range []struct {
		name string
		a    int
		b    int
	}{
		{"+", m, 1}, {"+", 1, m}, {"+", -m, -1}, {"+", -1, -m}, {"+", m, m}, {"+", -m, -m}, {"+", 500000000, 500000001}, {"+", -500000000, -500000001},
		{"-", m, -1}, {"-", -m, 1}, {"-", 1, -m}, {"-", -1, m}, {"-", m, -m}, {"-", -m, m}, {"-", -500000001, 500000000}, {"-", 500000001, -500000000},
		// 1000000001 has the factors 7 and 142857143.
		{"*", 7, 142857143}, {"*", 142857143, 7}, {"*", -7, 142857143}, {"*", 142857143, -7}, {"*", -7, -142857143},
		{"*", m, m}, {"*", -m, m}, {"*", m, -m}, {"*", -m, -m}, {"*", 1 << 16, 1 << 16}, {"*", 31623, 31623}, {"*", 1 << 29, 1 << 29}, {"*", 2, 500000001},
	} {
		p := poolOf(intNode(c.a), intNode(c.b))
		askRefusal(t, "beyond", p, numberOf(c.name), []int{0, 1}, impl.PmLimit)
	}
}

func TestLessAndEqual(t *testing.T) {
	numbers := []int{-impl.MaxInt, -7, -1, 0, 1, 2, 7, impl.MaxInt - 1, impl.MaxInt}
	for _, a := range numbers {
		for _, b := range numbers {
			p := poolOf(intNode(b), boolNode(0), intNode(a))
			askDone(t, "less", p, numberOf("<"), []int{2, 0}, newBehind(p, truthNode(a < b)))
			askDone(t, "equal", p, numberOf("="), []int{2, 0}, newBehind(p, truthNode(a == b)))
		}
	}
	p := poolOf(intNode(4))
	askDone(t, "itself", p, numberOf("<"), []int{0, 0}, newBehind(p, boolNode(0)))
	askDone(t, "itself", p, numberOf("="), []int{0, 0}, newBehind(p, boolNode(1)))
}

func TestWhatIsNoNumber(t *testing.T) {
	p := kindsPool()
	for n := numberOf("+"); n <= numberOf("="); n++ {
		for a := range p.Nodes {
			for b := range p.Nodes {
				if p.Nodes[a].Kind != impl.KInt || p.Nodes[b].Kind != impl.KInt {
					askRefusal(t, "no number", p, n, []int{a, b}, impl.PmType)
				}
			}
		}
	}
	// What has a number, but is none.
	q := poolOf(intNode(1), boolNode(1), primNode(1), pidNode(1), funNode(1, 0))
	for n := numberOf("+"); n <= numberOf("="); n++ {
		for v := 1; v < len(q.Nodes); v++ {
			askRefusal(t, "no number", q, n, []int{0, v}, impl.PmType)
			askRefusal(t, "no number", q, n, []int{v, 0}, impl.PmType)
		}
	}
}

// Promise 5: what cons puts together is taken apart by car and cdr.
func TestWhatIsPutTogetherIsTakenApart(t *testing.T) {
	for _, p := range []impl.Pool{kindsPool(), mixedPool(), doubled(5), chain(6), manyNodes(1), manyNodes(12)} {
		for a := range p.Nodes {
			for b := range p.Nodes {
				q, v, how := impl.PrimDo(p, numberOf("cons"), []int{a, b})
				if how != impl.PmDone || v != len(p.Nodes) || !sameNodes(q, newBehind(p, pairNode(a, b)).pool) || !impl.PoolOk(q) {
					t.Fatalf("cons of %d and %d in %+v: %d, %d, %+v", a, b, p, how, v, q)
				}
				askDone(t, "put together", q, numberOf("car"), []int{v}, anEnd{pool: q, v: a})
				askDone(t, "put together", q, numberOf("cdr"), []int{v}, anEnd{pool: q, v: b})
				askDone(t, "put together", q, numberOf("pair?"), []int{v}, newBehind(q, boolNode(1)))
			}
		}
	}
}

// Promise 5: a sum less one of its parts is the other one.
func TestSumLessOnePart(t *testing.T) {
	r := &aRandom{x: 31}
	for range 2000 {
		a, b := r.below(impl.MaxInt+1)-impl.MaxInt/2, r.below(impl.MaxInt+1)-impl.MaxInt/2
		p := poolOf(intNode(a), intNode(b))
		q, sum, how := impl.PrimDo(p, numberOf("+"), []int{0, 1})
		if how != impl.PmDone || q.Nodes[sum] != intNode(a+b) {
			t.Fatalf("%d and %d: code %d, %+v", a, b, how, q)
		}
		askDone(t, "less the first", q, numberOf("-"), []int{sum, 0}, newBehind(q, intNode(b)))
		askDone(t, "less the second", q, numberOf("-"), []int{sum, 1}, newBehind(q, intNode(a)))
		less, v, _ := impl.PrimDo(q, numberOf("-"), []int{sum, 0})
		askDone(t, "the other one", less, numberOf("="), []int{v, 1}, newBehind(less, boolNode(1)))
		askDone(t, "the other one", less, numberOf("eq?"), []int{1, v}, newBehind(less, boolNode(1)))
	}
}

func TestCarAndCdrAreThereAlready(t *testing.T) {
	p := poolOf(intNode(1), intNode(2), nilNode(), pairNode(1, 2), pairNode(0, 3), pairNode(4, 0), symNode("behind"))
	for _, c := range [][3]int{{3, 1, 2}, {4, 0, 3}, {5, 4, 0}} {
		askDone(t, "car", p, numberOf("car"), []int{c[0]}, anEnd{pool: p, v: c[1]})
		askDone(t, "cdr", p, numberOf("cdr"), []int{c[0]}, anEnd{pool: p, v: c[2]})
	}
	q := kindsPool()
	for v, n := range q.Nodes {
		if n.Kind != impl.KPair {
			askRefusal(t, "no pair", q, numberOf("car"), []int{v}, impl.PmType)
			askRefusal(t, "no pair", q, numberOf("cdr"), []int{v}, impl.PmType)
		}
	}
}

func TestNullPairAndNotOfEachKind(t *testing.T) {
	p := kindsPool()
	for v, n := range p.Nodes {
		askDone(t, "null?", p, numberOf("null?"), []int{v}, newBehind(p, truthNode(n.Kind == impl.KNil)))
		askDone(t, "pair?", p, numberOf("pair?"), []int{v}, newBehind(p, truthNode(n.Kind == impl.KPair)))
		askDone(t, "not", p, numberOf("not"), []int{v}, newBehind(p, truthNode(v == 1)))
	}
	// What is nothing, or 0, but not #f.
	q := poolOf(intNode(0), primNode(0), pidNode(0), funNode(0, 0), kontNode(0), nilNode(), pairNode(5, 5))
	for v := range q.Nodes {
		askDone(t, "not", q, numberOf("not"), []int{v}, newBehind(q, boolNode(0)))
	}
}

func TestNotTwiceIsTheTruth(t *testing.T) {
	for _, n := range []impl.Node{boolNode(0), boolNode(1)} {
		p := poolOf(n)
		q, v, _ := impl.PrimDo(p, numberOf("not"), []int{0})
		askDone(t, "not twice", q, numberOf("not"), []int{v}, newBehind(q, n))
	}
}

func TestEqOfValuesThatAreAlike(t *testing.T) {
	p := mixedPool()
	for _, c := range [][2]int{{0, 12}, {1, 11}, {3, 13}, {4, 14}, {8, 15}, {5, 5}, {10, 10}} {
		askDone(t, "alike", p, numberOf("eq?"), []int{c[0], c[1]}, newBehind(p, boolNode(1)))
		askDone(t, "alike", p, numberOf("eq?"), []int{c[1], c[0]}, newBehind(p, boolNode(1)))
	}
	for _, p := range []impl.Pool{kindsPool(), mixedPool()} {
		for a := range p.Nodes {
			for b := range p.Nodes {
				askDone(t, "eq?", p, numberOf("eq?"), []int{a, b}, newBehind(p, truthNode(alikeByTree(p, a, b))))
			}
		}
	}
	// Two values that share so much that as trees they are never gone through to the end.
	q := doubled(60)
	for i := range 60 {
		at := 60 + i
		if i == 0 {
			at = 0
		}
		q.Nodes = append(q.Nodes, pairNode(at, at))
	}
	last := len(q.Nodes) - 1
	askDone(t, "shared", q, numberOf("eq?"), []int{60, last}, newBehind(q, boolNode(1)))
	askDone(t, "shared", q, numberOf("eq?"), []int{59, last}, newBehind(q, boolNode(0)))
}

func TestPrimDoOfBrokenPools(t *testing.T) {
	for why, p := range brokenPools() {
		for n := -1; n <= impl.Prims+1; n++ {
			for _, args := range [][]int{nil, {0}, {0, 0}, {1}, {0, 1}, {-1}} {
				askRefusal(t, why, p, n, args, impl.PmBad)
			}
		}
	}
}

func TestPrimDoOfNoNumber(t *testing.T) {
	p := kindsPool()
	for _, n := range []int{0, -1, 20, -2, 21, 99, -12, 1 << 32, 1<<32 + 1, math.MinInt, math.MaxInt} {
		for count := range 4 {
			askRefusal(t, "no number", p, n, []int{2, 2, 2}[:count], impl.PmBad)
			askRefusal(t, "no number, and nothing", impl.Pool{}, n, nil, impl.PmBad)
		}
	}
}

func TestPrimDoOfTooFewAndTooMany(t *testing.T) {
	// Each of these would be done, or told as another mistake, if they were as many as they should.
	for _, p := range []impl.Pool{kindsPool(), manyNodes(5), chain(4), manyNodes(impl.MaxNodes)} {
		for i, b := range builtIn() {
			for _, v := range []int{2, 4} {
				for count := range 6 {
					if count != b.takes {
						askRefusal(t, "how many", p, i+1, []int{v, v, v, v, v}[:count], impl.PmBad)
					}
				}
			}
		}
	}
	askRefusal(t, "very many", manyNodes(5), 1, make([]int, 5000), impl.PmBad)
}

func TestPrimDoOfNoNodes(t *testing.T) {
	for _, p := range []impl.Pool{{}, kindsPool(), manyNodes(1), manyNodes(impl.MaxNodes)} {
		for i, b := range builtIn() {
			for _, v := range []int{-1, len(p.Nodes), len(p.Nodes) + 1, -2, impl.MaxNodes, 1 << 32, math.MinInt, math.MaxInt} {
				if b.takes == 0 {
					continue
				}
				askRefusal(t, "no node", p, i+1, []int{v, v}[:b.takes], impl.PmBad)
				if b.takes == 2 {
					askRefusal(t, "no node first", p, i+1, []int{v, 0}, impl.PmBad)
					askRefusal(t, "no node behind", p, i+1, []int{0, v}, impl.PmBad)
				}
			}
		}
	}
}

func TestPrimDoOfWhatLiesOutside(t *testing.T) {
	for _, p := range []impl.Pool{kindsPool(), manyNodes(3), chain(4), manyNodes(impl.MaxNodes)} {
		for n := 13; n <= impl.Prims; n++ {
			for v := range min(len(p.Nodes), 12) {
				askRefusal(t, "outside", p, n, []int{v, 0}[:builtIn()[n-1].takes], impl.PmOuter)
			}
		}
	}
	// What takes nothing may be asked of a pool that has nothing.
	askRefusal(t, "outside", impl.Pool{}, numberOf("self"), nil, impl.PmOuter)
	askRefusal(t, "outside", impl.Pool{}, numberOf("recv"), []int{}, impl.PmOuter)
}

func TestPrimDoOfAFullPool(t *testing.T) {
	full := manyNodes(impl.MaxNodes - 4)
	full.Nodes = append(full.Nodes, nilNode(), pairNode(1, 2), boolNode(0), intNode(impl.MaxInt))
	at := impl.MaxNodes - 4
	calls := []struct {
		name string
		args []int
		node impl.Node
	}{
		{"+", []int{1, 2}, intNode(3)}, {"-", []int{1, 2}, intNode(-1)}, {"*", []int{3, 4}, intNode(12)}, {"<", []int{1, 2}, boolNode(1)}, {"=", []int{1, 2}, boolNode(0)},
		{"cons", []int{1, at}, pairNode(1, at)}, {"null?", []int{at}, boolNode(1)}, {"pair?", []int{at}, boolNode(0)}, {"eq?", []int{5, 5}, boolNode(1)}, {"not", []int{at + 2}, boolNode(1)},
	}
	for _, c := range calls {
		askRefusal(t, "full", full, numberOf(c.name), c.args, impl.PmFull)
	}
	askDone(t, "full", full, numberOf("car"), []int{at + 1}, anEnd{pool: full, v: 1})
	askDone(t, "full", full, numberOf("cdr"), []int{at + 1}, anEnd{pool: full, v: 2})
	// One less: there is room for just one.
	room := poolOf(full.Nodes[:impl.MaxNodes-1]...)
	for _, c := range calls {
		askDone(t, "room for one", room, numberOf(c.name), c.args, newBehind(room, c.node))
	}
	askDone(t, "room for one", room, numberOf("cdr"), []int{at + 1}, anEnd{pool: room, v: 2})
}

// Two reasons in one call: the one that the chapter names first.
func TestWhichReasonComesFirst(t *testing.T) {
	full := manyNodes(impl.MaxNodes - 3)
	at := len(full.Nodes)
	full.Nodes = append(full.Nodes, nilNode(), intNode(impl.MaxInt), intNode(-impl.MaxInt))
	broken := copyOf(full)
	broken.Nodes = append(broken.Nodes, nilNode())
	// PmBad ahead of PmOuter, PmType, PmLimit and PmFull.
	for n := 13; n <= impl.Prims; n++ {
		askRefusal(t, "outside, too many", full, n, []int{0, 0, 0}, impl.PmBad)
		askRefusal(t, "outside, no pool", broken, n, []int{0, 0}[:builtIn()[n-1].takes], impl.PmBad)
		if builtIn()[n-1].takes > 0 {
			askRefusal(t, "outside, no node", full, n, []int{-1, 0}[:builtIn()[n-1].takes], impl.PmBad)
			askRefusal(t, "outside, too few", full, n, nil, impl.PmBad)
		}
	}
	askRefusal(t, "no node, no number", full, numberOf("+"), []int{at, impl.MaxNodes}, impl.PmBad)
	askRefusal(t, "no pool, no number", broken, numberOf("+"), []int{at, 0}, impl.PmBad)
	askRefusal(t, "no pool, no pair", broken, numberOf("car"), []int{0}, impl.PmBad)
	askRefusal(t, "too many, no pair", full, numberOf("car"), []int{0, 0}, impl.PmBad)
	askRefusal(t, "too many, beyond", full, numberOf("+"), []int{at + 1, at + 1, 0}, impl.PmBad)
	askRefusal(t, "no pool, full", broken, numberOf("cons"), []int{0, 0}, impl.PmBad)
	askRefusal(t, "no number, full", full, 20, []int{0, 0}, impl.PmBad)
	// PmOuter ahead of PmFull.
	askRefusal(t, "outside, full", full, numberOf("print"), []int{0}, impl.PmOuter)
	askRefusal(t, "outside, full", full, numberOf("self"), nil, impl.PmOuter)
	// PmType ahead of PmFull.
	for n := numberOf("+"); n <= numberOf("="); n++ {
		askRefusal(t, "no number, full", full, n, []int{at, 1}, impl.PmType)
		askRefusal(t, "no number, full", full, n, []int{1, at}, impl.PmType)
		askRefusal(t, "no number beside the greatest", full, n, []int{at + 1, at}, impl.PmType)
	}
	askRefusal(t, "no pair, full", full, numberOf("car"), []int{at}, impl.PmType)
	askRefusal(t, "no pair, full", full, numberOf("cdr"), []int{0}, impl.PmType)
	// PmLimit ahead of PmFull; where there is none of these, PmFull.
	askRefusal(t, "beyond, full", full, numberOf("+"), []int{at + 1, 1}, impl.PmLimit)
	askRefusal(t, "beyond, full", full, numberOf("-"), []int{at + 2, 1}, impl.PmLimit)
	askRefusal(t, "beyond, full", full, numberOf("*"), []int{at + 1, at + 2}, impl.PmLimit)
	askRefusal(t, "just full", full, numberOf("+"), []int{at + 1, 0}, impl.PmFull)
	askRefusal(t, "just full", full, numberOf("<"), []int{at + 1, at + 2}, impl.PmFull)
}

// doneByRules: as the chapter tells it, code by code in its order.
func doneByRules(p impl.Pool, n int, args []int) anEnd {
	if !impl.PoolOk(p) || n < 1 || n > len(builtIn()) || len(args) != builtIn()[n-1].takes {
		return notDone(p, impl.PmBad)
	}
	for _, v := range args {
		if v < 0 || v >= len(p.Nodes) {
			return notDone(p, impl.PmBad)
		}
	}
	if n > 12 {
		return notDone(p, impl.PmOuter)
	}
	var parts []impl.Node
	for _, v := range args {
		parts = append(parts, p.Nodes[v])
	}
	name := builtIn()[n-1].name
	noInt := func(n impl.Node) bool { return n.Kind != impl.KInt }
	noPair := func(n impl.Node) bool { return n.Kind != impl.KPair }
	if n <= 5 && slices.ContainsFunc(parts, noInt) || (name == "car" || name == "cdr") && slices.ContainsFunc(parts, noPair) {
		return notDone(p, impl.PmType)
	}
	switch name {
	case "car":
		return anEnd{pool: p, v: parts[0].A}
	case "cdr":
		return anEnd{pool: p, v: parts[0].B}
	}
	node, fits := nodeByRules(p, name, args, parts)
	if !fits {
		return notDone(p, impl.PmLimit)
	}
	if len(p.Nodes) == impl.MaxNodes {
		return notDone(p, impl.PmFull)
	}
	return newBehind(p, node)
}

func nodeByRules(p impl.Pool, name string, args []int, parts []impl.Node) (impl.Node, bool) {
	x, y := big.NewInt(int64(parts[0].N)), new(big.Int)
	if len(parts) == 2 {
		y = big.NewInt(int64(parts[1].N))
	}
	switch name {
	case "+":
		x.Add(x, y)
	case "-":
		x.Sub(x, y)
	case "*":
		x.Mul(x, y)
	case "<":
		return truthNode(x.Cmp(y) < 0), true
	case "=":
		return truthNode(x.Cmp(y) == 0), true
	case "cons":
		return pairNode(args[0], args[1]), true
	case "null?":
		return truthNode(parts[0].Kind == impl.KNil), true
	case "pair?":
		return truthNode(parts[0].Kind == impl.KPair), true
	case "eq?":
		return truthNode(alikeByTree(p, args[0], args[1])), true
	case "not":
		return truthNode(parts[0].Kind == impl.KBool && parts[0].N == 0), true
	}
	return intNode(int(x.Int64())), x.CmpAbs(big.NewInt(impl.MaxInt)) <= 0
}

// numbersAmong turns some of the numbers of a pool into others, great ones among them.
func (r *aRandom) numbersAmong(p impl.Pool) {
	for i, n := range p.Nodes {
		if n.Kind == impl.KInt || r.below(2) == 0 && n.Kind < impl.KPair {
			great := []int{impl.MaxInt, impl.MaxInt - 1, 31622, 31623, 40000, 2, 3, 500000000, r.below(impl.MaxInt)}[r.below(9)]
			p.Nodes[i] = intNode(great * (1 - 2*r.below(2)))
		}
	}
}

func TestPrimDoByRules(t *testing.T) {
	r := &aRandom{x: 37}
	met := map[int]int{}
	for range 40000 {
		p := r.pool(r.below(13))
		r.numbersAmong(p)
		n := r.below(impl.Prims+3) - 1
		count := r.below(4)
		if n >= 1 && n <= impl.Prims && r.below(10) > 0 {
			count = builtIn()[n-1].takes
		}
		var args []int
		for range count {
			v := r.below(len(p.Nodes)+1) - r.below(20)/19
			if v == len(p.Nodes) && r.below(5) > 0 {
				v = max(0, v-1)
			}
			args = append(args, v)
		}
		want := doneByRules(p, n, args)
		met[want.how]++
		if got := done(p, n, args); !got.equal(want) {
			t.Fatalf("%s of %v in %+v: %+v; asked: %+v", nameOf(n), args, p, got, want)
		}
	}
	for _, how := range []int{impl.PmDone, impl.PmBad, impl.PmOuter, impl.PmType, impl.PmLimit} {
		if met[how] < 200 {
			t.Errorf("the codes came up so often: %v", met)
		}
	}
}

func TestPrimDoOfFullPoolsByRules(t *testing.T) {
	r := &aRandom{x: 41}
	met := map[int]int{}
	for range 400 {
		p := poolOf(slices.Concat(r.pool(30).Nodes, manyNodes(impl.MaxNodes-30-r.below(2)).Nodes)...)
		r.numbersAmong(impl.Pool{Nodes: p.Nodes[:30]})
		n := 1 + r.below(impl.Prims)
		args := []int{r.below(40), r.below(40)}[:builtIn()[n-1].takes]
		want := doneByRules(p, n, args)
		met[want.how]++
		if got := done(p, n, args); !got.equal(want) {
			t.Fatalf("%s of %v in %d nodes: code %d, value %d; asked: code %d, value %d", nameOf(n), args, len(p.Nodes), got.how, got.v, want.how, want.v)
		}
	}
	if met[impl.PmDone] < 20 || met[impl.PmFull] < 20 || met[impl.PmType] < 20 {
		t.Errorf("the codes came up so often: %v", met)
	}
}

// What is done leaves a pool that is right, and all that was there.
func TestManyCallsBehindEachOther(t *testing.T) {
	r := &aRandom{x: 43}
	p := kindsPool()
	for range 3000 {
		n := 1 + r.below(12)
		args := []int{r.below(len(p.Nodes)), r.below(len(p.Nodes))}[:builtIn()[n-1].takes]
		q, v, how := impl.PrimDo(p, n, args)
		if how == impl.PmDone && (v < 0 || v >= len(q.Nodes)) || how != impl.PmDone && v != -1 {
			t.Fatalf("%s of %v: code %d, value %d of %d nodes", nameOf(n), args, how, v, len(q.Nodes))
		}
		if !impl.PoolOk(q) || !slices.Equal(q.Nodes[:len(p.Nodes)], p.Nodes) || len(q.Nodes) > len(p.Nodes)+1 {
			t.Fatalf("%s of %v: %d nodes behind %d", nameOf(n), args, len(q.Nodes), len(p.Nodes))
		}
		p = q
	}
	if len(p.Nodes) < 1000 {
		t.Errorf("only %d nodes were made", len(p.Nodes))
	}
}

// callsToAsk: calls that end with each of the codes, in a pool that may have fewer nodes.
func callsToAsk() [][]int {
	calls := [][]int{{0}, {20, 0}, {7, 3}, {8, 3}, {7, 4}, {8, 4}, {7, 1}, {8, 49}, {7, -1}, {1, 0, 1, 2}}
	for i, b := range builtIn() {
		calls = append(calls, append([]int{i + 1}, []int{1, 1}[:b.takes]...), append([]int{i + 1}, []int{0, 2}[:b.takes]...))
	}
	return calls
}

func TestNothingIsWrittenByPrimDo(t *testing.T) {
	for _, p := range append(poolsToAsk(), kindsPool(), poolOf(intNode(impl.MaxInt), intNode(impl.MaxInt))) {
		for _, call := range callsToAsk() {
			q, whole := roomy(p)
			args := append(slices.Clone(call[1:]), 1, -5, -6)
			before, argsBefore := slices.Clone(whole), slices.Clone(args)
			first := done(q, call[0], args[:len(call)-1])
			kept := anEnd{copyOf(first.pool), first.v, first.how}
			second := done(q, call[0], args[:len(call)-1])
			spoilNodes(second.pool)
			if !slices.Equal(whole, before) || !slices.Equal(args, argsBefore) {
				t.Errorf("%s of %v in %d nodes: an argument was written into, or the answer shares its memory", nameOf(call[0]), call[1:], len(p.Nodes))
			}
			spoilNodes(impl.Pool{Nodes: whole})
			for i := range args {
				args[i] = -9
			}
			if !first.equal(kept) {
				t.Errorf("%s of %v in %d nodes: the answer shares memory with an argument, or with another one", nameOf(call[0]), call[1:], len(p.Nodes))
			}
			if third := done(p, call[0], call[1:]); !third.equal(kept) {
				t.Errorf("%s of %v in %d nodes: something is kept from call to call", nameOf(call[0]), call[1:], len(p.Nodes))
			}
		}
	}
}
