package tests

import (
	"math"
	"slices"
	"strings"
	"testing"

	"loop.example/g00189/impl"
)

func nilNode() impl.Node              { return impl.Node{Kind: impl.KNil} }
func boolNode(n int) impl.Node        { return impl.Node{Kind: impl.KBool, N: n} }
func intNode(n int) impl.Node         { return impl.Node{Kind: impl.KInt, N: n} }
func symNode(s string) impl.Node      { return impl.Node{Kind: impl.KSym, S: s} }
func pairNode(a int, b int) impl.Node { return impl.Node{Kind: impl.KPair, A: a, B: b} }
func funNode(n int, a int) impl.Node  { return impl.Node{Kind: impl.KFun, N: n, A: a} }
func kontNode(a int) impl.Node        { return impl.Node{Kind: impl.KKont, A: a} }
func primNode(n int) impl.Node        { return impl.Node{Kind: impl.KPrim, N: n} }
func pidNode(n int) impl.Node         { return impl.Node{Kind: impl.KPid, N: n} }

func poolOf(nodes ...impl.Node) impl.Pool { return impl.Pool{Nodes: nodes} }

// manyNodes: a pool of n numbers, no two alike.
func manyNodes(n int) impl.Pool {
	var p impl.Pool
	for i := range n {
		p.Nodes = append(p.Nodes, intNode(i))
	}
	return p
}

// mixedPool: a node of every kind, some alike at different places, some shared.
func mixedPool() impl.Pool {
	return poolOf(
		nilNode(), intNode(7), symNode("x"), pairNode(1, 0), pairNode(2, 3), boolNode(1), primNode(3), pidNode(9),
		funNode(16, 4), kontNode(8), pairNode(9, 9), intNode(7), nilNode(), pairNode(11, 12), pairNode(2, 13), funNode(16, 14), boolNode(0),
	)
}

// doubled: a number, and behind it n pairs, each of the one ahead of it twice.
func doubled(n int) impl.Pool {
	p := poolOf(intNode(1))
	for i := range n {
		p.Nodes = append(p.Nodes, pairNode(i, i))
	}
	return p
}

// brokenPools: what is no pool, each for one reason.
func brokenPools() map[string]impl.Pool {
	return map[string]impl.Pool{
		"no kind":                poolOf(impl.Node{}),
		"no kind behind one":     poolOf(nilNode(), impl.Node{Kind: 10}),
		"a pair of itself":       poolOf(nilNode(), pairNode(0, 1)),
		"a pair of what is not":  poolOf(nilNode(), pairNode(9, 0)),
		"no name":                poolOf(symNode("A")),
		"no bool":                poolOf(nilNode(), boolNode(2)),
		"too many":               manyNodes(impl.MaxNodes + 1),
		"wrong at the end":       poolOf(append(manyNodes(impl.MaxNodes-1).Nodes, intNode(impl.MaxInt+1))...),
		"wrong at the beginning": poolOf(append([]impl.Node{{Kind: impl.KNil, N: 1}}, manyNodes(5).Nodes...)...),
	}
}

func sameNodes(a impl.Pool, b impl.Pool) bool { return slices.Equal(a.Nodes, b.Nodes) }

func copyOf(p impl.Pool) impl.Pool { return impl.Pool{Nodes: slices.Clone(p.Nodes)} }

func TestKindsAndLimits(t *testing.T) {
	kinds := []int{impl.KNil, impl.KBool, impl.KInt, impl.KSym, impl.KPair, impl.KFun, impl.KKont, impl.KPrim, impl.KPid}
	if !slices.Equal(kinds, []int{1, 2, 3, 4, 5, 6, 7, 8, 9}) {
		t.Error("kinds", kinds)
	}
	if impl.MaxNodes != 3000 || impl.MaxInt != 1000000000 || impl.MaxName != 12 {
		t.Error("limits", impl.MaxNodes, impl.MaxInt, impl.MaxName)
	}
}

func TestNameBytes(t *testing.T) {
	for b := range 256 {
		let := strings.Contains("abcdefghijklmnopqrstuvwxyz+-*<=?!/", string([]byte{byte(b)}))
		s := string([]byte{byte(b)})
		for _, name := range []string{s, "a" + s, s + "a", "abcdefghijk" + s, "car" + s + "cdr"} {
			if impl.NameOk(name) != let {
				t.Errorf("NameOk(%q) is %v", name, !let)
			}
			if impl.PoolOk(poolOf(symNode(name))) != let {
				t.Errorf("PoolOk of the name %q is %v", name, !let)
			}
		}
	}
}

func TestNameLengths(t *testing.T) {
	for n := range 40 {
		for _, b := range []string{"a", "z", "-", "/"} {
			name := strings.Repeat(b, n)
			want := n >= 1 && n <= 12
			if impl.NameOk(name) != want || impl.PoolOk(poolOf(symNode(name))) != want {
				t.Errorf("a name of %d bytes: %v, %v", n, impl.NameOk(name), impl.PoolOk(poolOf(symNode(name))))
			}
		}
	}
	for _, name := range []string{"é", "λ", "a b", " a", "a ", "()", "a.b", "x1", ">", "->", "#t", "\x00", "a\n", "\xff"} {
		if impl.NameOk(name) {
			t.Errorf("%q is no name", name)
		}
	}
	for _, name := range []string{"null?", "set!", "+", "a/b", "-", "a-b", "<=", "*a*", "quote", "define"} {
		if !impl.NameOk(name) {
			t.Errorf("%q is a name", name)
		}
	}
}

// askNode asks PoolOk and Make about one more node behind a pool that is right.
func askNode(t *testing.T, why string, ahead impl.Pool, n impl.Node, want bool) {
	t.Helper()
	whole := copyOf(ahead)
	whole.Nodes = append(whole.Nodes, n)
	if impl.PoolOk(whole) != want {
		t.Errorf("%s: PoolOk with %+v behind %d nodes is %v", why, n, len(ahead.Nodes), !want)
	}
	p, at := impl.Make(ahead, n)
	if want && (at != len(ahead.Nodes) || !sameNodes(p, whole)) {
		t.Errorf("%s: %+v behind %d nodes is made as %d, %+v", why, n, len(ahead.Nodes), at, p)
	}
	if !want && (at != -1 || !sameNodes(p, ahead)) {
		t.Errorf("%s: %+v behind %d nodes is not refused: %d, %+v", why, n, len(ahead.Nodes), at, p)
	}
}

func TestNumbersOfKinds(t *testing.T) {
	bounds := map[int][2]int{
		impl.KNil: {0, 0}, impl.KBool: {0, 1}, impl.KInt: {-impl.MaxInt, impl.MaxInt}, impl.KSym: {0, 0}, impl.KPair: {0, 0},
		impl.KFun: {0, impl.MaxInt}, impl.KKont: {0, 0}, impl.KPrim: {0, 99}, impl.KPid: {0, impl.MaxInt},
	}
	ahead := poolOf(nilNode(), nilNode())
	for kind, b := range bounds {
		n := impl.Node{Kind: kind}
		if kind == impl.KSym {
			n.S = "x"
		}
		for _, x := range []int{b[0], b[1], b[0] - 1, b[1] + 1, 0, 1, -1, 2, 5, 99, 100, math.MinInt, math.MaxInt, impl.MaxInt, -impl.MaxInt, impl.MaxInt + 1, -impl.MaxInt - 1, 1 << 32} {
			n.N = x
			askNode(t, "N", ahead, n, x >= b[0] && x <= b[1])
		}
	}
}

func TestKindsThatAreNot(t *testing.T) {
	ahead := poolOf(nilNode(), nilNode())
	for _, kind := range []int{0, -1, 10, 11, -5, 100, 1 << 32, 1<<32 + 1, math.MinInt, math.MaxInt} {
		askNode(t, "kind", ahead, impl.Node{Kind: kind}, false)
		askNode(t, "kind", ahead, impl.Node{Kind: kind, S: "x"}, false)
	}
}

func TestWhatIsNotNamedIsZero(t *testing.T) {
	ahead := poolOf(nilNode(), intNode(4), intNode(5))
	whole := map[int]impl.Node{
		impl.KNil: nilNode(), impl.KBool: boolNode(1), impl.KInt: intNode(3), impl.KSym: symNode("x"), impl.KPair: pairNode(1, 2),
		impl.KFun: funNode(8, 1), impl.KKont: kontNode(2), impl.KPrim: primNode(4), impl.KPid: pidNode(1),
	}
	for kind, n := range whole {
		askNode(t, "as it is", ahead, n, true)
		if kind != impl.KSym {
			for _, s := range []string{"x", "+", "abc", "A", "\x00"} {
				n := n
				n.S = s
				askNode(t, "S", ahead, n, false)
			}
		}
		hasA := kind == impl.KPair || kind == impl.KFun || kind == impl.KKont
		for _, part := range []int{1, 2, 3, -1, math.MaxInt, math.MinInt} {
			a, b := n, n
			a.A, b.B = part, part
			isNode := part >= 0 && part < 3
			askNode(t, "A", ahead, a, hasA && isNode)
			askNode(t, "B", ahead, b, kind == impl.KPair && isNode)
		}
	}
}

func TestWhatIsNotAhead(t *testing.T) {
	for count := range 4 {
		ahead := manyNodes(count)
		for _, part := range []int{-2, -1, 0, 1, 2, 3, 4, 5, impl.MaxNodes, math.MaxInt, math.MinInt} {
			isAhead := part >= 0 && part < count
			askNode(t, "A of a pair", ahead, pairNode(part, 0), isAhead && count > 0)
			askNode(t, "B of a pair", ahead, pairNode(0, part), isAhead && count > 0)
			askNode(t, "both of a pair", ahead, pairNode(part, part), isAhead)
			askNode(t, "what a function knows", ahead, funNode(0, part), isAhead)
			askNode(t, "what was caught", ahead, kontNode(part), isAhead)
		}
	}
	// What stands behind a node is there, but not ahead of it.
	for _, n := range []impl.Node{pairNode(2, 0), pairNode(0, 2), funNode(0, 2), kontNode(2), pairNode(1, 0), pairNode(0, 1), funNode(0, 1), kontNode(1)} {
		if impl.PoolOk(poolOf(nilNode(), n, nilNode(), nilNode())) {
			t.Errorf("%+v at place 1 has what is not ahead of it", n)
		}
	}
}

func TestPoolSizes(t *testing.T) {
	for _, n := range []int{0, 1, 2, impl.MaxNodes - 1, impl.MaxNodes, impl.MaxNodes + 1, 2 * impl.MaxNodes} {
		if impl.PoolOk(manyNodes(n)) != (n <= impl.MaxNodes) {
			t.Errorf("PoolOk of %d nodes is %v", n, n > impl.MaxNodes)
		}
	}
	if !impl.PoolOk(mixedPool()) || !impl.PoolOk(impl.Pool{}) || !impl.PoolOk(impl.Pool{Nodes: []impl.Node{}}) {
		t.Error("a right pool is refused")
	}
	for why, p := range brokenPools() {
		if impl.PoolOk(p) {
			t.Errorf("PoolOk: %s", why)
		}
	}
}

func TestMakeBehindAll(t *testing.T) {
	var p impl.Pool
	want := mixedPool()
	for i, n := range want.Nodes {
		var at int
		p, at = impl.Make(p, n)
		if at != i || !sameNodes(p, poolOf(want.Nodes[:i+1]...)) || !impl.PoolOk(p) {
			t.Fatalf("node %d is made as %d of %+v", i, at, p)
		}
	}
}

func TestMakeAtTheLimit(t *testing.T) {
	p := manyNodes(impl.MaxNodes - 1)
	q, at := impl.Make(p, pairNode(impl.MaxNodes-2, 0))
	if at != impl.MaxNodes-1 || len(q.Nodes) != impl.MaxNodes || !impl.PoolOk(q) {
		t.Fatal("the last node that there is room for", at, len(q.Nodes))
	}
	for _, n := range []impl.Node{nilNode(), intNode(1), pairNode(0, 0), {}} {
		if r, at := impl.Make(q, n); at != -1 || !sameNodes(r, q) {
			t.Errorf("%+v behind MaxNodes: %d, %d nodes", n, at, len(r.Nodes))
		}
	}
}

func TestNothingIsMadeOfBrokenPools(t *testing.T) {
	for why, p := range brokenPools() {
		for _, n := range []impl.Node{nilNode(), intNode(1), pairNode(0, 0), {}} {
			if q, at := impl.Make(p, n); len(q.Nodes) != 0 || at != -1 {
				t.Errorf("Make, %s: %d nodes, %d", why, len(q.Nodes), at)
			}
		}
		for _, list := range [][]int{nil, {0}, {0, 0}, {-1}, {99}} {
			if q, at := impl.MakeList(p, list); len(q.Nodes) != 0 || at != -1 {
				t.Errorf("MakeList, %s: %d nodes, %d", why, len(q.Nodes), at)
			}
		}
		for _, v := range []int{-1, 0, 1, len(p.Nodes) - 1, len(p.Nodes)} {
			if list, ok := impl.ListOf(p, v); len(list) != 0 || ok {
				t.Errorf("ListOf, %s: %v, %v", why, list, ok)
			}
			if impl.Same(p, v, v) || impl.Same(p, 0, v) || impl.SizeOf(p, v) != 0 {
				t.Errorf("%s: the value %d is alike, or has %d nodes", why, v, impl.SizeOf(p, v))
			}
		}
	}
}

// listNodes: what MakeList puts behind so many nodes.
func listNodes(ahead int, list []int) []impl.Node {
	nodes := []impl.Node{nilNode()}
	for _, v := range slices.Backward(list) {
		nodes = append(nodes, pairNode(v, ahead+len(nodes)-1))
	}
	return nodes
}

func someLists() [][]int {
	return [][]int{nil, {}, {0}, {1}, {16}, {0, 1}, {1, 0}, {3, 3, 3}, {16, 15, 14, 13, 0, 5, 5, 2}, slices.Repeat([]int{4, 10}, 60)}
}

func TestMakeListForm(t *testing.T) {
	p := mixedPool()
	for _, list := range someLists() {
		q, v := impl.MakeList(p, list)
		want := slices.Concat(p.Nodes, listNodes(len(p.Nodes), list))
		if v != len(want)-1 || !slices.Equal(q.Nodes, want) || !impl.PoolOk(q) {
			t.Errorf("the list of %v is %d of %+v", list, v, q.Nodes[len(p.Nodes):])
		}
	}
	if q, v := impl.MakeList(impl.Pool{}, nil); v != 0 || !sameNodes(q, poolOf(nilNode())) {
		t.Error("the empty list of nothing", q, v)
	}
}

func TestListIsReadAsMade(t *testing.T) {
	for _, list := range someLists() {
		p, v := impl.MakeList(mixedPool(), list)
		if got, ok := impl.ListOf(p, v); !ok || !slices.Equal(got, list) {
			t.Errorf("the list of %v is read as %v, %v", list, got, ok)
		}
		p, w := impl.MakeList(p, append([]int{v, v}, list...))
		if got, ok := impl.ListOf(p, w); !ok || !slices.Equal(got, append([]int{v, v}, list...)) {
			t.Errorf("the list of itself twice and %v is read as %v, %v", list, got, ok)
		}
		if got, ok := impl.ListOf(p, v); !ok || !slices.Equal(got, list) {
			t.Errorf("behind another one the list of %v is read as %v, %v", list, got, ok)
		}
	}
}

func TestMakeListOfNoNodes(t *testing.T) {
	for _, p := range []impl.Pool{{}, manyNodes(1), mixedPool(), manyNodes(impl.MaxNodes)} {
		n := len(p.Nodes)
		for _, bad := range []int{-1, -2, n, n + 1, n + 2, impl.MaxNodes, math.MaxInt, math.MinInt} {
			if bad < n && bad >= 0 {
				continue
			}
			for _, list := range [][]int{{bad}, {0, bad}, {bad, 0}, {0, 0, bad, 0}} {
				if q, v := impl.MakeList(p, list); v != -1 || !sameNodes(q, p) {
					t.Errorf("the list of %v behind %d nodes: %d, %d nodes", list, n, v, len(q.Nodes))
				}
			}
		}
	}
}

func TestMakeListAtTheLimit(t *testing.T) {
	for _, count := range []int{1, 2, 2000, impl.MaxNodes - 1, impl.MaxNodes} {
		p := manyNodes(count)
		for _, over := range []int{-1, 0, 1, 2} {
			long := impl.MaxNodes - count - 1 + over
			if long < 0 {
				continue
			}
			list := make([]int, long)
			q, v := impl.MakeList(p, list)
			if over <= 0 && (v != count+long || len(q.Nodes) != count+long+1 || !impl.PoolOk(q)) {
				t.Errorf("a list of %d behind %d nodes: %d, %d nodes", long, count, v, len(q.Nodes))
			}
			if over > 0 && (v != -1 || !sameNodes(q, p)) {
				t.Errorf("a list of %d behind %d nodes is not refused: %d, %d nodes", long, count, v, len(q.Nodes))
			}
		}
	}
	if q, v := impl.MakeList(manyNodes(impl.MaxNodes), nil); v != -1 || len(q.Nodes) != impl.MaxNodes {
		t.Error("the empty list behind MaxNodes", v, len(q.Nodes))
	}
	if q, v := impl.MakeList(manyNodes(1), make([]int, 100000)); v != -1 || len(q.Nodes) != 1 {
		t.Error("a very long list", v, len(q.Nodes))
	}
}

func TestListOfEndings(t *testing.T) {
	p := poolOf(nilNode(), intNode(5), pairNode(1, 0), pairNode(2, 2), pairNode(1, 1), pairNode(1, 4), symNode("x"), boolNode(0),
		funNode(0, 2), kontNode(2), primNode(1), pidNode(1), pairNode(1, 8), pairNode(1, 9), pairNode(1, 6), pairNode(0, 3), nilNode(), pairNode(16, 16))
	lists := map[int][]int{0: {}, 2: {1}, 3: {2, 1}, 15: {0, 2, 1}, 16: {}, 17: {16}}
	for v := range p.Nodes {
		want, isList := lists[v]
		if list, ok := impl.ListOf(p, v); ok != isList || !slices.Equal(list, want) {
			t.Errorf("ListOf %d is %v, %v", v, list, ok)
		}
	}
	for _, v := range []int{-1, -2, len(p.Nodes), len(p.Nodes) + 1, math.MaxInt, math.MinInt} {
		if list, ok := impl.ListOf(p, v); ok || len(list) != 0 {
			t.Errorf("ListOf %d, which is no node: %v, %v", v, list, ok)
		}
	}
	if list, ok := impl.ListOf(impl.Pool{}, 0); ok || len(list) != 0 {
		t.Error("ListOf nothing", list, ok)
	}
	if list, ok := impl.ListOf(chain(impl.MaxNodes), impl.MaxNodes-1); !ok || len(list) != impl.MaxNodes-1 {
		t.Error("the longest list", len(list), ok)
	}
}

// chain: a KNil, and pairs of it and the one ahead up to n nodes.
func chain(n int) impl.Pool {
	p := poolOf(nilNode())
	for i := 1; i < n; i++ {
		p.Nodes = append(p.Nodes, pairNode(0, i-1))
	}
	return p
}

// alikeByTree holds two values against each other as the document tells it, part by part.
func alikeByTree(p impl.Pool, a int, b int) bool {
	x, y := p.Nodes[a], p.Nodes[b]
	if x.Kind != y.Kind || x.N != y.N || x.S != y.S {
		return false
	}
	switch x.Kind {
	case impl.KPair:
		return alikeByTree(p, x.A, y.A) && alikeByTree(p, x.B, y.B)
	case impl.KFun, impl.KKont:
		return alikeByTree(p, x.A, y.A)
	}
	return true
}

func sizeByTree(p impl.Pool, v int) int {
	n := p.Nodes[v]
	switch n.Kind {
	case impl.KPair:
		return 1 + sizeByTree(p, n.A) + sizeByTree(p, n.B)
	case impl.KFun, impl.KKont:
		return 1 + sizeByTree(p, n.A)
	}
	return 1
}

// aRandom is a fixed row of numbers, so that each run asks the same.
type aRandom struct{ x uint64 }

func (r *aRandom) below(n int) int {
	r.x = r.x*6364136223846793005 + 1442695040888963407
	return int(r.x>>33) % n
}

func (r *aRandom) node(at int) impl.Node {
	kind := 1 + r.below(9)
	if at == 0 && (kind == impl.KPair || kind == impl.KFun || kind == impl.KKont) {
		kind = impl.KNil
	}
	switch kind {
	case impl.KSym:
		return symNode([]string{"a", "b", "aa"}[r.below(3)])
	case impl.KPair:
		return pairNode(r.below(at), r.below(at))
	case impl.KFun:
		return funNode(r.below(2), r.below(at))
	case impl.KKont:
		return kontNode(r.below(at))
	case impl.KNil:
		return nilNode()
	}
	return impl.Node{Kind: kind, N: r.below(2)}
}

func (r *aRandom) pool(n int) impl.Pool {
	var p impl.Pool
	for i := range n {
		p.Nodes = append(p.Nodes, r.node(i))
	}
	return p
}

func TestSameAndSizeByTrees(t *testing.T) {
	r := &aRandom{x: 1}
	alike := 0
	for range 300 {
		p := r.pool(1 + r.below(14))
		for a := range p.Nodes {
			if got, want := impl.SizeOf(p, a), sizeByTree(p, a); got != want {
				t.Fatalf("SizeOf %d of %+v is %d, not %d", a, p, got, want)
			}
			for b := range p.Nodes {
				want := alikeByTree(p, a, b)
				if impl.Same(p, a, b) != want {
					t.Fatalf("Same %d, %d of %+v is %v", a, b, p, !want)
				}
				if want && a != b {
					alike++
				}
			}
		}
	}
	if alike < 1000 {
		t.Errorf("only %d were alike", alike)
	}
}

func TestSameAtDifferentPlaces(t *testing.T) {
	p := mixedPool()
	for _, c := range [][2]int{{0, 12}, {1, 11}, {3, 13}, {4, 14}, {8, 15}} {
		if !impl.Same(p, c[0], c[1]) || !impl.Same(p, c[1], c[0]) {
			t.Errorf("%d and %d are alike", c[0], c[1])
		}
	}
	for v := range p.Nodes {
		if !impl.Same(p, v, v) {
			t.Errorf("%d is alike to itself", v)
		}
	}
}

func TestSameTellsApart(t *testing.T) {
	p := poolOf(nilNode(), boolNode(0), boolNode(1), intNode(0), intNode(1), intNode(-1), symNode("a"), symNode("b"), symNode("ab"), symNode("aa"),
		pairNode(0, 0), pairNode(0, 1), pairNode(1, 0), pairNode(1, 1), pairNode(10, 0), pairNode(0, 10), funNode(0, 0), funNode(1, 0), funNode(0, 1),
		kontNode(0), kontNode(1), primNode(0), primNode(1), pidNode(0), pidNode(1), pairNode(3, 0), pairNode(21, 0))
	for a := range p.Nodes {
		for b := range p.Nodes {
			if impl.Same(p, a, b) != (a == b) {
				t.Errorf("%+v and %+v: %v", p.Nodes[a], p.Nodes[b], a != b)
			}
		}
	}
}

func TestSameOfNoNodes(t *testing.T) {
	p := mixedPool()
	n := len(p.Nodes)
	for _, bad := range []int{-1, -2, n, n + 1, math.MaxInt, math.MinInt} {
		if impl.Same(p, bad, 0) || impl.Same(p, 0, bad) || impl.Same(p, bad, bad) || impl.SizeOf(p, bad) != 0 {
			t.Errorf("%d is no node", bad)
		}
		if impl.Same(impl.Pool{}, bad, bad) || impl.Same(impl.Pool{}, 0, 0) || impl.SizeOf(impl.Pool{}, bad) != 0 || impl.SizeOf(impl.Pool{}, 0) != 0 {
			t.Errorf("nothing has no node %d", bad)
		}
	}
}

// Two towers, one beside the other: as trees they have far more nodes than could be gone through.
func TestSameOfValuesThatShare(t *testing.T) {
	p := poolOf(intNode(1), intNode(1), intNode(2))
	for len(p.Nodes) < impl.MaxNodes {
		at := len(p.Nodes) - 3
		p.Nodes = append(p.Nodes, pairNode(at, at), pairNode(at+1, at+1), pairNode(at+2, at+2))
	}
	last := len(p.Nodes) - 3
	if !impl.PoolOk(p) || !impl.Same(p, last, last+1) || impl.Same(p, last, last+2) || impl.Same(p, last+1, last+2) || impl.Same(p, last, last-3) {
		t.Error("towers of pairs")
	}
	// Shared in one, apart in the other: alike all the same.
	q := poolOf(intNode(1), pairNode(0, 0), pairNode(1, 1), intNode(1), intNode(1), pairNode(3, 4), pairNode(4, 0), pairNode(5, 6))
	if !impl.Same(q, 2, 7) || !impl.Same(q, 1, 6) || !impl.Same(q, 5, 6) || impl.Same(q, 1, 7) {
		t.Error("shared and apart")
	}
}

func TestSizeOfValuesThatShare(t *testing.T) {
	p := doubled(impl.MaxNodes - 1)
	for v := range p.Nodes {
		want := impl.MaxInt
		if v < 29 {
			want = 1<<(v+1) - 1
		}
		if got := impl.SizeOf(p, v); got != want {
			t.Fatalf("SizeOf of %d pairs one upon the other is %d, not %d", v, got, want)
		}
	}
}

// sizedPool: a value that has just n nodes as a tree, n from 2^29 - 1 on, below twice that.
func sizedPool(n int) (impl.Pool, int) {
	p := doubled(28)
	at, left := 28, n-(1<<29-1)
	for v := 28; v >= 0; v-- {
		for left >= 1<<(v+1) {
			p.Nodes = append(p.Nodes, pairNode(v, at))
			at = len(p.Nodes) - 1
			left -= 1 << (v + 1)
		}
	}
	for range left {
		p.Nodes = append(p.Nodes, kontNode(at))
		at = len(p.Nodes) - 1
	}
	return p, at
}

func TestSizeOfAboutMaxInt(t *testing.T) {
	for _, n := range []int{1<<29 - 1, 1 << 29, impl.MaxInt - 2, impl.MaxInt - 1, impl.MaxInt, impl.MaxInt + 1, impl.MaxInt + 2} {
		p, v := sizedPool(n)
		if got := impl.SizeOf(p, v); got != min(n, impl.MaxInt) {
			t.Errorf("a value of %d nodes has %d", n, got)
		}
		more := []impl.Node{kontNode(v), funNode(1, v), pairNode(v, 0), pairNode(0, v), pairNode(v, v)}
		for i, add := range []int{1, 1, 2, 2, n + 1} {
			q, w := impl.Make(p, more[i])
			if got := impl.SizeOf(q, w); got != min(n+add, impl.MaxInt) {
				t.Errorf("%+v, of a value of %d nodes, has %d", more[i], n, got)
			}
		}
	}
}

func TestSizeOfLists(t *testing.T) {
	for _, list := range someLists() {
		p, v := impl.MakeList(mixedPool(), list)
		want := 1
		for _, x := range list {
			want += 1 + impl.SizeOf(p, x)
		}
		if got := impl.SizeOf(p, v); got != want {
			t.Errorf("the list of %v has %d nodes, not %d", list, got, want)
		}
	}
	if got := impl.SizeOf(chain(impl.MaxNodes), impl.MaxNodes-1); got != 2*impl.MaxNodes-1 {
		t.Error("the longest list", got)
	}
}

// Promise 2: what is made is there and alike to itself, and all ahead of it reads as it did, whatever is made behind it.
func TestWhatIsMadeStays(t *testing.T) {
	r := &aRandom{x: 5}
	type made struct {
		v, size int
		list    []int
		isList  bool
	}
	for range 20 {
		var p impl.Pool
		var all []made
		for range 40 {
			before, v := p, 0
			if r.below(3) > 0 || len(p.Nodes) == 0 {
				p, v = impl.Make(p, r.node(len(p.Nodes)))
			} else {
				p, v = impl.MakeList(p, []int{r.below(len(p.Nodes)), r.below(len(p.Nodes))})
			}
			if v != len(p.Nodes)-1 || !slices.Equal(p.Nodes[:len(before.Nodes)], before.Nodes) || !impl.PoolOk(p) {
				t.Fatalf("%+v, and behind it %d of %+v", before, v, p)
			}
			list, isList := impl.ListOf(p, v)
			all = append(all, made{v, impl.SizeOf(p, v), list, isList})
			for _, m := range all {
				list, isList := impl.ListOf(p, m.v)
				if !impl.Same(p, m.v, m.v) || impl.SizeOf(p, m.v) != m.size || isList != m.isList || !slices.Equal(list, m.list) {
					t.Fatalf("%d reads otherwise in %+v", m.v, p)
				}
			}
		}
	}
}

// roomy: the pool with spare room behind it, and the whole of its memory.
func roomy(p impl.Pool) (impl.Pool, []impl.Node) {
	whole := append(slices.Clone(p.Nodes), symNode("spare"), pairNode(7, 7), intNode(3), intNode(4), intNode(5), intNode(6))
	return impl.Pool{Nodes: whole[:len(p.Nodes)]}, whole
}

func poolsToAsk() []impl.Pool {
	list := []impl.Pool{{}, manyNodes(1), mixedPool(), doubled(40), chain(50), manyNodes(impl.MaxNodes - 2), manyNodes(impl.MaxNodes)}
	for _, p := range brokenPools() {
		list = append(list, p)
	}
	return list
}

func TestNothingIsWrittenIntoPools(t *testing.T) {
	for _, p := range poolsToAsk() {
		q, whole := roomy(p)
		before := slices.Clone(whole)
		list := []int{0, 0, 1, 99, 98}
		listBefore := slices.Clone(list)
		impl.PoolOk(q)
		for _, n := range []impl.Node{nilNode(), pairNode(0, 0), {}, symNode("A")} {
			impl.Make(q, n)
		}
		for n := range 4 {
			impl.MakeList(q, list[:n])
		}
		for _, v := range []int{-1, 0, len(p.Nodes) - 1, len(p.Nodes)} {
			impl.ListOf(q, v)
			impl.Same(q, v, 0)
			impl.Same(q, 0, v)
			impl.SizeOf(q, v)
		}
		if !slices.Equal(whole, before) || !slices.Equal(list, listBefore) {
			t.Errorf("a pool of %d nodes, or a list, was written into", len(p.Nodes))
		}
	}
}

// spoilNodes turns all of a pool round, and the spare room behind it.
func spoilNodes(p impl.Pool) {
	nodes := p.Nodes[:cap(p.Nodes)]
	for i := range nodes {
		nodes[i] = impl.Node{Kind: -7, N: -7, S: "spoilt", A: -7, B: -7}
	}
}

func TestPoolsAreNewMemory(t *testing.T) {
	makes := map[string]func(p impl.Pool) impl.Pool{
		"Make":                   func(p impl.Pool) impl.Pool { q, _ := impl.Make(p, nilNode()); return q },
		"Make that is refused":   func(p impl.Pool) impl.Pool { q, _ := impl.Make(p, impl.Node{}); return q },
		"MakeList":               func(p impl.Pool) impl.Pool { q, _ := impl.MakeList(p, nil); return q },
		"MakeList of two":        func(p impl.Pool) impl.Pool { q, _ := impl.MakeList(p, []int{0, 0}); return q },
		"MakeList, no node":      func(p impl.Pool) impl.Pool { q, _ := impl.MakeList(p, []int{-1}); return q },
		"MakeList, far too long": func(p impl.Pool) impl.Pool { q, _ := impl.MakeList(p, make([]int, 4000)); return q },
	}
	for why, do := range makes {
		for _, p := range poolsToAsk() {
			q, whole := roomy(p)
			before := slices.Clone(whole)
			first, second := do(q), do(q)
			told := slices.Clone(second.Nodes)
			spoilNodes(first)
			if !slices.Equal(whole, before) {
				t.Errorf("%s: the answer shares memory with a pool of %d nodes", why, len(p.Nodes))
			}
			if !slices.Equal(second.Nodes, told) {
				t.Errorf("%s: two answers share memory", why)
			}
			spoilNodes(impl.Pool{Nodes: whole})
			if !slices.Equal(second.Nodes, told) {
				t.Errorf("%s: the answer changes with a pool of %d nodes", why, len(p.Nodes))
			}
		}
	}
}

func TestListsAreNewMemory(t *testing.T) {
	list := []int{2, 1, 0}
	p, v := impl.MakeList(mixedPool(), list)
	before := copyOf(p)
	first, _ := impl.ListOf(p, v)
	second, _ := impl.ListOf(p, v)
	for i := range first[:cap(first)] {
		first[:cap(first)][i] = -9
	}
	list[0], list[1], list[2] = 5, 6, 7
	if !slices.Equal(second, []int{2, 1, 0}) || !sameNodes(p, before) {
		t.Error("a list shares memory", second)
	}
	if third, ok := impl.ListOf(p, v); !ok || !slices.Equal(third, second) {
		t.Error("a list changes with an answer", third)
	}
}
