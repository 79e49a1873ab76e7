package tests

import (
	"fmt"
	"math"
	"slices"
	"testing"

	"loop.example/g00189/impl"
)

// hangingByRules: the numbers of all nodes on which a root hangs, in their order.
func hangingByRules(p impl.Pool, roots ...int) []int {
	var list []int
	met := make([]bool, len(p.Nodes))
	var down func(v int)
	down = func(v int) {
		if met[v] {
			return
		}
		met[v] = true
		list = append(list, v)
		switch n := p.Nodes[v]; n.Kind {
		case impl.KPair:
			down(n.A)
			down(n.B)
		case impl.KFun, impl.KKont:
			down(n.A)
		}
	}
	for _, root := range roots {
		down(root)
	}
	slices.Sort(list)
	return list
}

// reachByRules: that list as Reach tells it.
func reachByRules(p impl.Pool, roots ...int) []bool {
	told := make([]bool, len(p.Nodes))
	for _, v := range hangingByRules(p, roots...) {
		told[v] = true
	}
	return told
}

// placeIn: where a value stands among these, which are sorted.
func placeIn(hanging []int, v int) int {
	at, _ := slices.BinarySearch(hanging, v)
	return at
}

// nodesByRules: these nodes, which are all that one of them hangs on, as they stand behind so many others.
func nodesByRules(p impl.Pool, hanging []int, ahead int) []impl.Node {
	var nodes []impl.Node
	for _, v := range hanging {
		n := p.Nodes[v]
		if n.Kind == impl.KPair || n.Kind == impl.KFun || n.Kind == impl.KKont {
			n.A = ahead + placeIn(hanging, n.A)
		}
		if n.Kind == impl.KPair {
			n.B = ahead + placeIn(hanging, n.B)
		}
		nodes = append(nodes, n)
	}
	return nodes
}

func keptByRules(p impl.Pool, roots ...int) (impl.Pool, []int) {
	hanging := hangingByRules(p, roots...)
	var now []int
	for _, root := range roots {
		now = append(now, placeIn(hanging, root))
	}
	return poolOf(nodesByRules(p, hanging, 0)...), now
}

func copiedByRules(p impl.Pool, q impl.Pool, v int) (impl.Pool, int) {
	hanging := hangingByRules(q, v)
	nodes := slices.Concat(p.Nodes, nodesByRules(q, hanging, len(p.Nodes)))
	if len(nodes) > impl.MaxNodes {
		return p, -1
	}
	return poolOf(nodes...), len(nodes) - 1
}

func tidiedByRules(m impl.Machine) impl.Machine {
	fields := []*int{&m.S, &m.E, &m.D}
	if m.State == impl.MsAsk || m.State == impl.MsDone {
		fields = append(fields, &m.Arg)
	}
	var roots []int
	for _, field := range fields {
		if *field < 0 || *field >= len(m.Pool.Nodes) {
			return m
		}
		roots = append(roots, *field)
	}
	if !impl.PoolOk(m.Pool) {
		return m
	}
	p, now := keptByRules(m.Pool, roots...)
	for i, field := range fields {
		*field = now[i]
	}
	m.Pool = p
	return m
}

// wholeTold tells a value with all that it hangs on, which Write does not tell of functions and of what was caught.
func wholeTold(p impl.Pool, v int) string {
	n := p.Nodes[v]
	s := fmt.Sprint(n.Kind, ":", n.N, n.S)
	switch n.Kind {
	case impl.KPair:
		s += "(" + wholeTold(p, n.A) + "," + wholeTold(p, n.B) + ")"
	case impl.KFun, impl.KKont:
		s += "(" + wholeTold(p, n.A) + ")"
	}
	return s
}

func askReach(t *testing.T, why string, p impl.Pool, roots []int, want []bool) {
	t.Helper()
	if got := impl.Reach(p, roots); !slices.Equal(got, want) {
		t.Errorf("%s: Reach of %v, %d nodes, tells %v, not %v", why, roots, len(p.Nodes), got, want)
	}
}

func askKeep(t *testing.T, why string, p impl.Pool, roots []int, want impl.Pool, wantNow []int) {
	t.Helper()
	if q, now := impl.Keep(p, roots); !sameNodes(q, want) || !slices.Equal(now, wantNow) {
		t.Errorf("%s: Keep for %v, %d nodes, tells %+v, %v, not %+v, %v", why, roots, len(p.Nodes), q.Nodes, now, want.Nodes, wantNow)
	}
}

func askCopy(t *testing.T, why string, p impl.Pool, q impl.Pool, v int, want impl.Pool, wantAt int) {
	t.Helper()
	if got, at := impl.Copy(p, q, v); !sameNodes(got, want) || at != wantAt {
		t.Errorf("%s: Copy of %d behind %d nodes tells %d, %+v, not %d, %+v", why, v, len(p.Nodes), at, got.Nodes, wantAt, want.Nodes)
	}
}

func askTidy(t *testing.T, why string, m impl.Machine, want impl.Machine) {
	t.Helper()
	if got := impl.Tidy(m); !sameMachine(got, want) {
		t.Errorf("%s: of %s\ntold: %s\nasked: %s", why, toldMachine(m, 0), toldMachine(got, 0), toldMachine(want, 0))
	}
}

// flags: so many, and these of them true.
func flags(count int, set ...int) []bool {
	list := make([]bool, count)
	for _, at := range set {
		list[at] = true
	}
	return list
}

// keepPool: values that share, each kind, and at the end two lists that hang on much the same.
func keepPool() impl.Pool {
	return poolOf(
		intNode(10), nilNode(), symNode("a"), boolNode(1), pairNode(2, 1), // 4: (a)
		funNode(17, 4), primNode(7), kontNode(5), pidNode(3), pairNode(0, 4), // 9: (10 a)
		pairNode(9, 9), pairNode(8, 6), funNode(0, 3), pairNode(4, 9), intNode(-2), // 13: ((a) 10 a)
	)
}

func TestReachOfEachKind(t *testing.T) {
	p := keepPool()
	n := len(p.Nodes)
	for root, reached := range [][]int{
		{0}, {1}, {2}, {3}, {1, 2, 4},
		{1, 2, 4, 5}, {6}, {1, 2, 4, 5, 7}, {8}, {0, 1, 2, 4, 9},
		{0, 1, 2, 4, 9, 10}, {6, 8, 11}, {3, 12}, {0, 1, 2, 4, 9, 13}, {14},
	} {
		askReach(t, "one root", p, []int{root}, flags(n, reached...))
		askReach(t, "twice", p, []int{root, root}, flags(n, reached...))
		askReach(t, "often", p, slices.Repeat([]int{root}, 50), flags(n, reached...))
	}
}

func TestReachOfManyRoots(t *testing.T) {
	p := keepPool()
	n := len(p.Nodes)
	askReach(t, "no roots", p, nil, flags(n))
	askReach(t, "no roots", p, []int{}, flags(n))
	askReach(t, "hang on one another", p, []int{4, 9, 10}, flags(n, 0, 1, 2, 4, 9, 10))
	askReach(t, "hang on one another", p, []int{10, 9, 4}, flags(n, 0, 1, 2, 4, 9, 10))
	askReach(t, "two that hang on one", p, []int{9, 5}, flags(n, 0, 1, 2, 4, 5, 9))
	askReach(t, "two that hang on one", p, []int{7, 10}, flags(n, 0, 1, 2, 4, 5, 7, 9, 10))
	askReach(t, "apart", p, []int{12, 11}, flags(n, 3, 6, 8, 11, 12))
	askReach(t, "what hangs on nothing", p, []int{14, 0, 8}, flags(n, 0, 8, 14))
	askReach(t, "all", p, []int{0, 1, 2, 3, 4, 5, 6, 7, 8, 9, 10, 11, 12, 13, 14}, slices.Repeat([]bool{true}, n))
	askReach(t, "all that nothing hangs on", p, []int{14, 13, 12, 11, 10, 7}, slices.Repeat([]bool{true}, n))
	askReach(t, "more roots than nodes", p, slices.Repeat([]int{3, 14, 4}, 2000), flags(n, 1, 2, 3, 4, 14))
}

// What hangs on nothing has an A and a B of 0, which is no node of it.
func TestReachIsNotLedAstrayByNoughts(t *testing.T) {
	p := poolOf(symNode("first"), nilNode(), boolNode(1), intNode(4), symNode("x"), primNode(2), pidNode(2), funNode(8, 1), kontNode(1), pairNode(1, 2))
	for _, x := range []struct{ root, to int }{{1, -1}, {2, -1}, {3, -1}, {4, -1}, {5, -1}, {6, -1}, {7, 1}, {8, 1}} {
		want := flags(len(p.Nodes), x.root)
		if x.to >= 0 {
			want[x.to] = true
		}
		askReach(t, "nought", p, []int{x.root}, want)
		if q, now := impl.Keep(p, []int{x.root}); len(q.Nodes) > 2 || len(now) != 1 || q.Nodes[now[0]].Kind != p.Nodes[x.root].Kind {
			t.Errorf("Keep for %d tells %+v, %v", x.root, q, now)
		}
	}
	askReach(t, "nought", p, []int{9}, flags(len(p.Nodes), 1, 2, 9))
}

func TestKeep(t *testing.T) {
	p := keepPool()
	for _, x := range []struct {
		why   string
		roots []int
		want  impl.Pool
		now   []int
	}{
		{"no roots", nil, impl.Pool{}, nil},
		{"one that hangs on nothing", []int{14}, poolOf(intNode(-2)), []int{0}},
		{"a list", []int{4}, poolOf(nilNode(), symNode("a"), pairNode(1, 0)), []int{2}},
		{"a function", []int{5}, poolOf(nilNode(), symNode("a"), pairNode(1, 0), funNode(17, 2)), []int{3}},
		{"what was caught", []int{7}, poolOf(nilNode(), symNode("a"), pairNode(1, 0), funNode(17, 2), kontNode(3)), []int{4}},
		{"one part twice", []int{10}, poolOf(intNode(10), nilNode(), symNode("a"), pairNode(2, 1), pairNode(0, 3), pairNode(4, 4)), []int{5}},
		{"parts in their order, not in that of the pair", []int{11}, poolOf(primNode(7), pidNode(3), pairNode(1, 0)), []int{2}},
		{"a root twice", []int{4, 4}, poolOf(nilNode(), symNode("a"), pairNode(1, 0)), []int{2, 2}},
		{"in another order", []int{14, 3, 6}, poolOf(boolNode(1), primNode(7), intNode(-2)), []int{2, 0, 1}},
		{"in another order, twice", []int{14, 3, 14, 3, 3}, poolOf(boolNode(1), intNode(-2)), []int{1, 0, 1, 0, 0}},
		{"hang on one another", []int{4, 9, 1}, poolOf(intNode(10), nilNode(), symNode("a"), pairNode(2, 1), pairNode(0, 3)), []int{3, 4, 1}},
		{"hang on one another", []int{9, 4}, poolOf(intNode(10), nilNode(), symNode("a"), pairNode(2, 1), pairNode(0, 3)), []int{4, 3}},
		{"two that hang on one", []int{5, 13}, poolOf(intNode(10), nilNode(), symNode("a"), pairNode(2, 1), funNode(17, 3), pairNode(0, 3), pairNode(3, 5)), []int{4, 6}},
		{"all", []int{14, 13, 12, 11, 10, 7}, p, []int{14, 13, 12, 11, 10, 7}},
	} {
		askKeep(t, x.why, p, x.roots, x.want, x.now)
	}
	// Alike, but not the same: both stay, where they are two.
	twice := poolOf(intNode(5), intNode(5), pairNode(0, 1), pairNode(0, 0), pairNode(1, 0))
	askKeep(t, "alike", twice, []int{2}, poolOf(intNode(5), intNode(5), pairNode(0, 1)), []int{2})
	askKeep(t, "alike", twice, []int{4}, poolOf(intNode(5), intNode(5), pairNode(1, 0)), []int{2})
	askKeep(t, "alike", twice, []int{3, 1}, poolOf(intNode(5), intNode(5), pairNode(0, 0)), []int{2, 1})
}

// A pool without nodes is right, and nothing is asked of it; what is refused tells nothing, whatever it is of.
func TestKeepOfNothing(t *testing.T) {
	for _, roots := range [][]int{nil, {}} {
		askReach(t, "an empty pool", impl.Pool{}, roots, nil)
		askKeep(t, "an empty pool", impl.Pool{}, roots, impl.Pool{}, nil)
		askReach(t, "a pool that is not empty", manyNodes(3), roots, flags(3))
		askKeep(t, "a pool that is not empty", manyNodes(3), roots, impl.Pool{}, nil)
		askReach(t, "the greatest", manyNodes(impl.MaxNodes), roots, flags(impl.MaxNodes))
		askReach(t, "too many", manyNodes(impl.MaxNodes+1), roots, nil)
	}
	for _, root := range []int{0, -1, 1, math.MaxInt, math.MinInt} {
		askReach(t, "no node of nothing", impl.Pool{}, []int{root}, nil)
		askKeep(t, "no node of nothing", impl.Pool{}, []int{root}, impl.Pool{}, nil)
	}
}

func TestKeepOfRootsThatAreNoNodes(t *testing.T) {
	for _, p := range []impl.Pool{{}, manyNodes(1), keepPool(), mixedPool(), manyNodes(impl.MaxNodes)} {
		n := len(p.Nodes)
		for _, bad := range []int{-1, -2, n, n + 1, impl.MaxNodes, math.MaxInt, math.MinInt, 1 << 32, -1 << 32} {
			for _, roots := range [][]int{{bad}, {bad, bad}, {0, bad}, {bad, 0}, {n - 1, bad, 0}, {0, 0, 0, bad}} {
				askReach(t, "no node", p, roots, nil)
				askKeep(t, "no node", p, roots, impl.Pool{}, nil)
			}
		}
	}
	// The last node and the one that would be behind it.
	p := keepPool()
	askReach(t, "the last", p, []int{14}, flags(15, 14))
	askReach(t, "just behind all", p, []int{15}, nil)
	askReach(t, "just behind all, among others", p, []int{14, 15, 0}, nil)
}

func TestKeepOfBrokenPools(t *testing.T) {
	for why, p := range brokenPools() {
		for _, roots := range [][]int{nil, {0}, {0, 0}, {len(p.Nodes) - 1}, {len(p.Nodes)}, {-1}} {
			askReach(t, why, p, roots, nil)
			askKeep(t, why, p, roots, impl.Pool{}, nil)
		}
		// What is wrong need not be reached.
		more := poolOf(slices.Concat(manyNodes(2).Nodes, p.Nodes)...)
		if !impl.PoolOk(more) {
			askReach(t, why+", behind", more, []int{1}, nil)
			askKeep(t, why+", behind", more, []int{1}, impl.Pool{}, nil)
		}
	}
}

// Values that share so often that as trees they would have no end.
func TestKeepOfGreatPools(t *testing.T) {
	tower, long := doubled(impl.MaxNodes-1), chain(impl.MaxNodes)
	for _, p := range []impl.Pool{tower, long, manyNodes(impl.MaxNodes)} {
		for _, roots := range [][]int{{impl.MaxNodes - 1}, {0}, {1500}, {1500, 1501, 20}, {7, 2999, 7}} {
			askReach(t, "great", p, roots, reachByRules(p, roots...))
			q, now := keptByRules(p, roots...)
			askKeep(t, "great", p, roots, q, now)
		}
	}
	askKeep(t, "all of a tower", tower, []int{impl.MaxNodes - 1}, tower, []int{impl.MaxNodes - 1})
	every := make([]int, impl.MaxNodes)
	for i := range every {
		every[i] = impl.MaxNodes - 1 - i
	}
	askKeep(t, "every one, from behind", long, every, long, every)
}

// askKept asks of what is kept what promise 7 says.
func askKept(t *testing.T, p impl.Pool, roots []int) {
	t.Helper()
	q, now := impl.Keep(p, roots)
	if !impl.PoolOk(q) || len(q.Nodes) > len(p.Nodes) || len(now) != len(roots) {
		t.Fatalf("Keep for %v of %+v tells %+v, %v", roots, p, q, now)
	}
	if slices.Contains(impl.Reach(q, now), false) {
		t.Fatalf("Keep for %v of %+v: not all is reached in %+v, %v", roots, p, q, now)
	}
	for i, root := range roots {
		if impl.Write(q, now[i]) != impl.Write(p, root) || wholeTold(q, now[i]) != wholeTold(p, root) {
			t.Fatalf("Keep for %v of %+v: %d is otherwise in %+v, %v", roots, p, root, q, now)
		}
		if r, v := impl.Copy(p, q, now[i]); !impl.Same(r, root, v) {
			t.Fatalf("Keep for %v of %+v: %d is not alike to what it was", roots, p, root)
		}
	}
	if again, places := impl.Keep(q, now); !sameNodes(again, q) || !slices.Equal(places, now) {
		t.Fatalf("Keep for %v of %+v: kept again it is %+v, %v", roots, p, again, places)
	}
}

func TestKeepByRules(t *testing.T) {
	r := &aRandom{x: 71}
	left, shared := 0, 0
	for range 4000 {
		p := r.pool(1 + r.below(16))
		var roots []int
		for range r.below(5) {
			roots = append(roots, r.below(len(p.Nodes)))
		}
		askReach(t, "some", p, roots, reachByRules(p, roots...))
		q, now := keptByRules(p, roots...)
		askKeep(t, "some", p, roots, q, now)
		askKept(t, p, roots)
		if len(q.Nodes) > 3 && len(q.Nodes) < len(p.Nodes) {
			left++
		}
		for i, root := range roots {
			if impl.SizeOf(p, root) > len(hangingByRules(p, root)) && now[i] != root {
				shared++
			}
		}
		if t.Failed() {
			return
		}
	}
	if left < 500 || shared < 200 {
		t.Errorf("so many left something out, or shared and moved: %d, %d", left, shared)
	}
}

func TestCopy(t *testing.T) {
	q := keepPool()
	for _, p := range []impl.Pool{{}, manyNodes(1), manyNodes(7), mixedPool(), q} {
		a := len(p.Nodes)
		for v, nodes := range map[int][]impl.Node{
			0:  {intNode(10)},
			1:  {nilNode()},
			3:  {boolNode(1)},
			4:  {nilNode(), symNode("a"), pairNode(a+1, a)},
			5:  {nilNode(), symNode("a"), pairNode(a+1, a), funNode(17, a+2)},
			6:  {primNode(7)},
			7:  {nilNode(), symNode("a"), pairNode(a+1, a), funNode(17, a+2), kontNode(a + 3)},
			8:  {pidNode(3)},
			10: {intNode(10), nilNode(), symNode("a"), pairNode(a+2, a+1), pairNode(a, a+3), pairNode(a+4, a+4)},
			11: {primNode(7), pidNode(3), pairNode(a+1, a)},
			13: {intNode(10), nilNode(), symNode("a"), pairNode(a+2, a+1), pairNode(a, a+3), pairNode(a+3, a+4)},
			14: {intNode(-2)},
		} {
			askCopy(t, "behind all", p, q, v, poolOf(slices.Concat(p.Nodes, nodes)...), a+len(nodes)-1)
		}
	}
}

// What a value hangs on is copied, though the like of it is there already.
func TestCopyIntoItsOwnPool(t *testing.T) {
	p := keepPool()
	for v := range p.Nodes {
		want, at := copiedByRules(p, p, v)
		askCopy(t, "its own", p, p, v, want, at)
		if !impl.Same(want, v, at) {
			t.Errorf("the copy of %d is not alike to it", v)
		}
	}
	q := poolOf(intNode(1), pairNode(0, 0))
	q, first := impl.Copy(q, q, 1)
	q, second := impl.Copy(q, q, first)
	if first != 3 || second != 5 || !sameNodes(q, poolOf(intNode(1), pairNode(0, 0), intNode(1), pairNode(2, 2), intNode(1), pairNode(4, 4))) {
		t.Error("twice", first, second, q)
	}
}

func TestCopyOfNoNode(t *testing.T) {
	for _, p := range []impl.Pool{{}, manyNodes(2), mixedPool(), manyNodes(impl.MaxNodes)} {
		for _, q := range []impl.Pool{{}, manyNodes(1), keepPool(), manyNodes(impl.MaxNodes)} {
			n := len(q.Nodes)
			for _, v := range []int{-1, -2, n, n + 1, impl.MaxNodes, math.MinInt, math.MaxInt, 1 << 32, -1 << 32} {
				askCopy(t, "no node", p, q, v, p, -1)
			}
		}
	}
}

func TestCopyOfBrokenPools(t *testing.T) {
	right := []impl.Pool{{}, manyNodes(1), mixedPool(), manyNodes(impl.MaxNodes)}
	for why, broken := range brokenPools() {
		n := len(broken.Nodes)
		for _, p := range right {
			for _, v := range []int{0, 1, n - 1, n, -1} {
				askCopy(t, "of what is not right: "+why, p, broken, v, p, -1)
			}
			// Where the value itself could be copied all the same.
			more := poolOf(slices.Concat(manyNodes(2).Nodes, broken.Nodes)...)
			if !impl.PoolOk(more) {
				askCopy(t, "of what is not right behind: "+why, p, more, 1, p, -1)
			}
			for _, v := range []int{0, len(p.Nodes) - 1, len(p.Nodes), -1} {
				askCopy(t, "into what is not right: "+why, broken, p, v, impl.Pool{}, -1)
			}
		}
		for other, q := range brokenPools() {
			askCopy(t, why+", and "+other, broken, q, 0, impl.Pool{}, -1)
			askCopy(t, why+", and "+other, broken, q, -1, impl.Pool{}, -1)
		}
	}
}

func TestCopyAtTheLimit(t *testing.T) {
	q := keepPool()
	for v := range q.Nodes {
		makes := len(hangingByRules(q, v))
		for room := range 10 {
			p := filled(impl.Machine{Pool: mixedPool()}, room).Pool
			if room < makes {
				askCopy(t, "no room", p, q, v, p, -1)
				continue
			}
			want, at := copiedByRules(p, q, v)
			askCopy(t, "room", p, q, v, want, at)
			if at != impl.MaxNodes-room+makes-1 || !impl.PoolOk(want) {
				t.Errorf("%d nodes behind all but %d are at %d", makes, room, at)
			}
		}
	}
	whole := doubled(impl.MaxNodes - 1)
	last := impl.MaxNodes - 1
	askCopy(t, "all into nothing", impl.Pool{}, whole, last, whole, last)
	askCopy(t, "all into one", manyNodes(1), whole, last, manyNodes(1), -1)
	askCopy(t, "all but one into one", manyNodes(1), whole, last-1, poolOf(append(manyNodes(1).Nodes, nodesByRules(whole, hangingByRules(whole, last-1), 1)...)...), last)
	askCopy(t, "all into all", whole, whole, last, whole, -1)
	askCopy(t, "one into all", whole, whole, 0, whole, -1)
	// What stands in q, but is not hung on, takes no room.
	askCopy(t, "one of all", manyNodes(last), manyNodes(impl.MaxNodes), 0, poolOf(append(manyNodes(last).Nodes, intNode(0))...), last)
	askCopy(t, "the last of all", manyNodes(last), manyNodes(impl.MaxNodes), last, poolOf(append(manyNodes(last).Nodes, intNode(last))...), last)
}

// Promise 7: a value that is copied is there as it was, and all that was there stays.
func TestCopyByRules(t *testing.T) {
	r := &aRandom{x: 73}
	for range 4000 {
		p, q := r.pool(r.below(12)), r.pool(1+r.below(14))
		v := r.below(len(q.Nodes))
		want, wantAt := copiedByRules(p, q, v)
		got, at := impl.Copy(p, q, v)
		if !sameNodes(got, want) || at != wantAt {
			t.Fatalf("Copy of %d of %+v behind %+v tells %d, %+v", v, q, p, at, got)
		}
		if !impl.PoolOk(got) || !slices.Equal(got.Nodes[:len(p.Nodes)], p.Nodes) || impl.Write(got, at) != impl.Write(q, v) || wholeTold(got, at) != wholeTold(q, v) {
			t.Fatalf("Copy of %d of %+v behind %+v is otherwise: %d, %+v", v, q, p, at, got)
		}
		for i, n := range impl.Reach(got, []int{at}) {
			if n != (i >= len(p.Nodes)) {
				t.Fatalf("Copy of %d of %+v behind %+v: %d hangs on what was there, or not on what came: %+v", v, q, p, at, got)
			}
		}
		kept, now := impl.Keep(q, []int{v})
		if alone, at := impl.Copy(impl.Pool{}, q, v); !sameNodes(alone, kept) || at != now[0] {
			t.Fatalf("Copy of %d of %+v into nothing is not what is kept", v, q)
		}
	}
}

// cluttered: a machine with a stack (9), frames (6), what waits (12) and an Arg (14), and nodes between them on which none of these hangs.
func cluttered() impl.Machine {
	p := poolOf(
		symNode("no"), nilNode(), intNode(4), pairNode(0, 1), pairNode(2, 1), // 4: (4)
		symNode("no"), pairNode(4, 1), symNode("top"), intNode(9), pairNode(7, 4), // 6: ((4)), 9: (top 4)
		funNode(8, 6), pairNode(0, 3), pairNode(10, 1), pidNode(1), kontNode(13), pairNode(14, 14),
	)
	return impl.Machine{Pool: p, S: 9, E: 6, D: 12, Arg: 14}
}

func TestTidyInEachState(t *testing.T) {
	kept := poolOf(nilNode(), intNode(4), pairNode(1, 0), pairNode(2, 0), symNode("top"), pairNode(4, 2), funNode(8, 3), pairNode(6, 0))
	withArg := poolOf(append(slices.Clone(kept.Nodes), pidNode(1), kontNode(8))...)
	for _, state := range []int{impl.MsRun, impl.MsAsk, impl.MsDone, impl.MsFail, -1, 4, 5, math.MinInt, math.MaxInt, 1 << 32, 1<<32 + 1} {
		for _, at := range []int{0, 7, -1, math.MaxInt, math.MinInt} {
			for _, ask := range []int{0, 13, impl.FlType, -8, math.MaxInt} {
				m := cluttered()
				m.State, m.At, m.Ask = state, at, ask
				want := impl.Machine{Pool: kept, S: 5, E: 3, D: 7, State: state, At: at, Ask: ask, Arg: 14}
				if state == impl.MsAsk || state == impl.MsDone {
					want.Pool, want.Arg = withArg, 9
				}
				askTidy(t, fmt.Sprint("state ", state), m, want)
			}
		}
	}
}

// Where Arg is no value it stays, whatever it is; where it is one, it must be a node.
func TestTidyOfArgs(t *testing.T) {
	for _, state := range []int{impl.MsRun, impl.MsAsk, impl.MsDone, impl.MsFail, -1, 4} {
		for _, arg := range []int{-1, -2, 16, 17, impl.MaxNodes, math.MinInt, math.MaxInt, 1 << 32} {
			m := cluttered()
			m.State, m.Arg = state, arg
			want := m
			if state != impl.MsAsk && state != impl.MsDone {
				want = tidiedByRules(m)
				if len(want.Pool.Nodes) != 8 || want.Arg != arg {
					t.Fatal("the rules", toldMachine(want, 0))
				}
			}
			askTidy(t, "no node", m, want)
		}
		for arg := range 16 {
			m := cluttered()
			m.State, m.Arg = state, arg
			askTidy(t, "a node", m, tidiedByRules(m))
		}
	}
}

func TestTidyOfWhatIsNoNode(t *testing.T) {
	for _, state := range []int{impl.MsRun, impl.MsAsk, impl.MsDone, impl.MsFail, -1, 4} {
		for i := range 3 {
			for _, v := range []int{-1, -2, 16, 17, impl.MaxNodes, math.MinInt, math.MaxInt, 1 << 32, -1 << 32} {
				m := cluttered()
				m.State = state
				*[]*int{&m.S, &m.E, &m.D}[i] = v
				askTidy(t, "no node", m, m)
			}
			for v := range 16 {
				m := cluttered()
				m.State = state
				*[]*int{&m.S, &m.E, &m.D}[i] = v
				askTidy(t, "a node", m, tidiedByRules(m))
			}
		}
		askTidy(t, "zero", impl.Machine{State: state}, impl.Machine{State: state})
		askTidy(t, "no nodes", impl.Machine{State: state, S: 1, E: -1, D: 2, At: 3}, impl.Machine{State: state, S: 1, E: -1, D: 2, At: 3})
	}
}

func TestTidyOfBrokenPools(t *testing.T) {
	for why, p := range brokenPools() {
		for _, state := range []int{impl.MsRun, impl.MsAsk, impl.MsDone, impl.MsFail, 7} {
			m := impl.Machine{Pool: p, State: state, At: 3, Ask: 4}
			askTidy(t, why, m, m)
			m.S, m.E, m.D, m.Arg = len(p.Nodes)-1, 0, len(p.Nodes), -1
			askTidy(t, why, m, m)
			// What is wrong stands behind all that would be kept.
			more := cluttered()
			more.State = state
			more.Pool = poolOf(slices.Concat(more.Pool.Nodes, p.Nodes)...)
			if !impl.PoolOk(more.Pool) {
				askTidy(t, why+", behind", more, more)
			}
		}
	}
}

func TestTidyOfWhatIsTidy(t *testing.T) {
	p := poolOf(nilNode(), pairNode(0, 0), intNode(3), pairNode(2, 0), pairNode(1, 3), funNode(1, 4))
	for _, m := range []impl.Machine{
		{Pool: poolOf(nilNode())},
		{Pool: poolOf(nilNode(), pairNode(0, 0)), E: 1},
		{Pool: p, S: 5, E: 5, D: 5},
		{Pool: p, S: 0, E: 5, D: 1},
		{Pool: p, S: 4, E: 0, D: 0, State: impl.MsDone, Arg: 5},
		{Pool: p, S: 4, E: 5, D: 3, State: impl.MsAsk, Ask: 13, Arg: 2, At: 6},
		{Pool: doubled(impl.MaxNodes - 1), S: impl.MaxNodes - 1, E: 20, D: 0},
		{Pool: chain(impl.MaxNodes), S: 0, E: 0, D: impl.MaxNodes - 1},
	} {
		askTidy(t, "all is hung on", m, m)
	}
	for _, name := range []string{"main", "f"} {
		c := programOf(t, "(define (f) 4) (f)")
		m, _ := impl.MachineNew(c, name)
		askTidy(t, "a new machine", m, m)
	}
	// One node of many, on which all three hang.
	askTidy(t, "one of many", impl.Machine{Pool: manyNodes(impl.MaxNodes), S: 2999, E: 2999, D: 2999}, impl.Machine{Pool: poolOf(intNode(2999))})
	askTidy(t, "three of many", impl.Machine{Pool: manyNodes(impl.MaxNodes), S: 2999, E: 0, D: 50}, impl.Machine{Pool: poolOf(intNode(0), intNode(50), intNode(2999)), S: 2, D: 1})
}

// askTidied asks of a machine that is tidied what promise 7 says.
func askTidied(t *testing.T, m impl.Machine) impl.Machine {
	t.Helper()
	n := impl.Tidy(m)
	roots, now := []int{m.S, m.E, m.D}, []int{n.S, n.E, n.D}
	if m.State == impl.MsAsk || m.State == impl.MsDone {
		roots, now = append(roots, m.Arg), append(now, n.Arg)
	} else if n.Arg != m.Arg {
		t.Fatalf("Arg is turned: %s\nto %s", toldMachine(m, 0), toldMachine(n, 0))
	}
	if n.At != m.At || n.State != m.State || n.Ask != m.Ask || len(n.Pool.Nodes) > len(m.Pool.Nodes) || slices.Contains(impl.Reach(n.Pool, now), false) {
		t.Fatalf("%s\nis tidied to %s", toldMachine(m, 0), toldMachine(n, 0))
	}
	for i := range roots {
		// An empty text is what Write tells of a value that is too long, in both.
		if impl.Write(n.Pool, now[i]) != impl.Write(m.Pool, roots[i]) {
			t.Fatalf("%s\nis tidied to %s\nof which %d is written otherwise", toldMachine(m, 0), toldMachine(n, 0), now[i])
		}
	}
	if again := impl.Tidy(n); !sameMachine(again, n) {
		t.Fatalf("%s\nis tidied again to %s", toldMachine(n, 0), toldMachine(again, 0))
	}
	return n
}

func TestTidyByRules(t *testing.T) {
	r := &aRandom{x: 79}
	left := 0
	for range 4000 {
		c := r.someCode()
		m := r.someMachine(c)
		m.State = r.below(5)
		m.Arg = r.below(len(m.Pool.Nodes))
		m.Ask = r.below(20)
		if r.below(20) == 0 {
			*[]*int{&m.S, &m.E, &m.D, &m.Arg}[r.below(4)] += r.below(100) - 50
		}
		want := tidiedByRules(m)
		askTidy(t, "some", m, want)
		if t.Failed() {
			return
		}
		if len(want.Pool.Nodes) < len(m.Pool.Nodes) {
			askTidied(t, m)
			left++
		}
	}
	if left < 2000 {
		t.Error("so few left something out", left)
	}
}

// What is tidied at every step is right, and goes the same way.
func TestProgramsThatAreTidied(t *testing.T) {
	most := 0
	for _, x := range []struct{ text, want string }{
		{"(define (fact n) (if (< n 2) 1 (* n (fact (- n 1))))) (fact 10)", "3628800"},
		{"(define (map f l) (if (null? l) () (cons (f (car l)) (map f (cdr l))))) (map (fn (x) (* x x)) (quote (1 2 3)))", "(1 4 9)"},
		{"(define (add n) (fn (x) (+ n x))) (let f (add 3) (let g (add 4) (cons (f 1) (g 1))))", "(4 . 5)"},
		{"(define (loop n k) (if (= n 0) (k 42) (+ 1 (loop (- n 1) k)))) (callcc (fn (k) (loop 10 k)))", "42"},
		{"(let k (callcc (fn (k) k)) (if (pair? k) (car k) (k (quote (7)))))", "7"},
		{"(cons (recv) (cons (print 5) (self)))", "((8) (8) 8)"},
		{"(+ 1 (recv))", ""},
	} {
		c := programOf(t, x.text)
		plain, _ := impl.MachineNew(c, "main")
		tidy := plain
		for plain.State == impl.MsRun || plain.State == impl.MsAsk {
			if plain.State == impl.MsAsk {
				answer := poolOf(symNode("no"), intNode(8), nilNode(), pairNode(1, 2))
				plain, tidy = impl.Answer(c, plain, answer, 3), impl.Answer(c, tidy, answer, 3)
			} else {
				plain, tidy = impl.Step(c, plain), impl.Step(c, tidy)
			}
			tidy = askTidied(t, tidy)
			if !impl.MachineOk(c, tidy) || !sameMachine(tidy, impl.Tidy(plain)) {
				t.Fatalf("%s: %s\nis tidied to %s", x.text, toldMachine(plain, 0), toldMachine(tidy, 0))
			}
			most = max(most, len(plain.Pool.Nodes)-len(tidy.Pool.Nodes))
		}
		if x.want != "" && (tidy.State != impl.MsDone || impl.Write(tidy.Pool, tidy.Arg) != x.want) {
			t.Errorf("%s comes to %s", x.text, toldMachine(tidy, 0))
		}
	}
	if most < 100 {
		t.Error("at most so many were left out", most)
	}
}

// A program that comes back to one place without end: it is full at some time, unless what nothing hangs on is no more.
func TestWhatIsTidiedHasRoom(t *testing.T) {
	c := programOf(t, "(let k (callcc (fn (k) k)) (k k))")
	plain, _ := impl.MachineNew(c, "main")
	tidy := plain
	for range 5000 {
		plain, tidy = impl.Step(c, plain), impl.Step(c, tidy)
		if len(tidy.Pool.Nodes) > 200 {
			tidy = impl.Tidy(tidy)
		}
	}
	if plain.State != impl.MsFail || plain.Ask != impl.FlFull || tidy.State != impl.MsRun || len(impl.Tidy(tidy).Pool.Nodes) > 50 {
		t.Errorf("plain: %s\ntidied: %s", toldMachine(plain, impl.MaxNodes), toldMachine(tidy, 0))
	}
}

// machinesToTidy: such as are tidied, such as are left, and such as have nothing to be left out.
func machinesToTidy() []impl.Machine {
	_, list := machinesToAsk()
	for _, state := range []int{0, 1, 2, 3, 9} {
		m := cluttered()
		m.State = state
		list = append(list, m)
		m.D = -1
		list = append(list, m)
	}
	for _, p := range poolsToAsk() {
		list = append(list, impl.Machine{Pool: p}, impl.Machine{Pool: p, S: len(p.Nodes) - 1, State: impl.MsDone}, impl.Machine{Pool: p, S: 1, E: 5000})
	}
	return list
}

func TestNothingIsWrittenByTidy(t *testing.T) {
	for i, m := range machinesToTidy() {
		askMemory(t, fmt.Sprint("Tidy, ", i), filling{m: m}, impl.Pool{}, func(_ impl.Code, m impl.Machine, _ impl.Pool) impl.Machine { return impl.Tidy(m) })
	}
}

// roomyInts: the list with spare room behind it, and the whole of its memory.
func roomyInts(list []int) ([]int, []int) {
	whole := append(slices.Clone(list), -71, -72, -73, -74)
	return whole[:len(list)], whole
}

func spoilInts(list []int) {
	list = list[:cap(list)]
	for i := range list {
		list[i] = -7777
	}
}

func rootsToAsk(p impl.Pool) [][]int {
	n := len(p.Nodes)
	return [][]int{nil, {0}, {n - 1}, {n - 1, 0, 0}, {0, 1, n}, {-1}}
}

func TestNothingIsWrittenByReachAndKeep(t *testing.T) {
	for _, p := range poolsToAsk() {
		for _, roots := range rootsToAsk(p) {
			pool, nodes := roomy(p)
			list, ints := roomyInts(roots)
			nodesBefore, intsBefore := slices.Clone(nodes), slices.Clone(ints)
			told := [2][]bool{impl.Reach(pool, list), impl.Reach(pool, list)}
			kept, now := impl.Keep(pool, list)
			other, places := impl.Keep(pool, list)
			toldBefore, keptBefore, nowBefore := slices.Clone(told[0]), copyOf(kept), slices.Clone(now)
			for i := range told[1][:cap(told[1])] {
				told[1][:cap(told[1])][i] = i%2 == 0
			}
			spoilNodes(other)
			spoilInts(places)
			if !slices.Equal(nodes, nodesBefore) || !slices.Equal(ints, intsBefore) {
				t.Errorf("roots %v of %d nodes: an argument was written into, or an answer shares its memory", roots, len(p.Nodes))
			}
			spoilNodes(impl.Pool{Nodes: nodes})
			spoilInts(ints)
			if !slices.Equal(told[0], toldBefore) || !sameNodes(kept, keptBefore) || !slices.Equal(now, nowBefore) {
				t.Errorf("roots %v of %d nodes: an answer shares memory with an argument, or with another one", roots, len(p.Nodes))
			}
			askReach(t, "again", p, roots, toldBefore)
			askKeep(t, "again", p, roots, keptBefore, nowBefore)
		}
	}
}

func TestNothingIsWrittenByCopy(t *testing.T) {
	for _, p := range poolsToAsk() {
		for _, q := range poolsToAsk() {
			for _, v := range []int{0, 10, len(q.Nodes) - 1, len(q.Nodes), -1} {
				into, intoNodes := roomy(p)
				from, fromNodes := roomy(q)
				intoBefore, fromBefore := slices.Clone(intoNodes), slices.Clone(fromNodes)
				first, at := impl.Copy(into, from, v)
				before := copyOf(first)
				second, _ := impl.Copy(into, from, v)
				spoilNodes(second)
				if !slices.Equal(intoNodes, intoBefore) || !slices.Equal(fromNodes, fromBefore) {
					t.Errorf("Copy of %d of %d nodes behind %d: an argument was written into, or the answer shares its memory", v, len(q.Nodes), len(p.Nodes))
				}
				spoilNodes(impl.Pool{Nodes: intoNodes})
				spoilNodes(impl.Pool{Nodes: fromNodes})
				if !sameNodes(first, before) {
					t.Errorf("Copy of %d of %d nodes behind %d: the answer shares memory", v, len(q.Nodes), len(p.Nodes))
				}
				askCopy(t, "again", p, q, v, before, at)
			}
		}
	}
	// Both are one, with spare room that would be enough.
	p, whole := roomy(keepPool())
	before := slices.Clone(whole)
	q, _ := impl.Copy(p, p, 4)
	spoilNodes(q)
	if !slices.Equal(whole, before) {
		t.Error("Copy into its own pool writes into it")
	}
}
