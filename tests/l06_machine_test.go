package tests

import (
	"fmt"
	"math"
	"slices"
	"strings"
	"testing"

	"loop.example/g00189/impl"
)

// codeFrom reads what listing writes, but a literal by its number in the pool.
func codeFrom(p impl.Pool, text string, defs ...impl.Def) impl.Code {
	c := impl.Code{Pool: p, Defs: defs}
	ops := map[string]int{"lit": impl.OpLit, "var": impl.OpVar, "global": impl.OpGlobal, "else": impl.OpElse, "jump": impl.OpJump, "fun": impl.OpFun, "call": impl.OpCall, "back": impl.OpBack, "pop": impl.OpPop}
	for _, words := range strings.Split(text, ", ") {
		var name string
		in := impl.Instr{}
		fmt.Sscan(words, &name, &in.N, &in.I)
		in.Op = ops[name]
		switch in.Op {
		case impl.OpCall:
			in.N, in.I = 0, in.N
		case impl.OpGlobal:
			in.N, in.S = 0, strings.TrimPrefix(words, "global ")
		}
		c.List = append(c.List, in)
	}
	if !impl.CodeOk(c) {
		panic("no code: " + text)
	}
	return c
}

func programOf(t *testing.T, texts ...string) impl.Code {
	t.Helper()
	p, list := valuesOf(t, texts...)
	c, how, number := impl.Compile(p, list)
	if how != impl.CpDone {
		t.Fatalf("%q is not compiled: %d at %d", texts, how, number)
	}
	return c
}

func sameMachine(a impl.Machine, b impl.Machine) bool {
	return sameNodes(a.Pool, b.Pool) && a.At == b.At && a.S == b.S && a.E == b.E && a.D == b.D && a.State == b.State && a.Ask == b.Ask && a.Arg == b.Arg
}

func cloneMachine(m impl.Machine) impl.Machine {
	m.Pool = copyOf(m.Pool)
	return m
}

// toldMachine tells the nodes from a place on, and all else.
func toldMachine(m impl.Machine, from int) string {
	s := fmt.Sprintf("at %d, s %d, e %d, d %d, state %d, ask %d, arg %d, %d nodes", m.At, m.S, m.E, m.D, m.State, m.Ask, m.Arg, len(m.Pool.Nodes))
	for i := max(0, from); i < len(m.Pool.Nodes); i++ {
		s += fmt.Sprintf("\n  %d: %+v", i, m.Pool.Nodes[i])
	}
	return s
}

// noMachine: what Step and Answer tell of a machine that is not right.
func noMachine() impl.Machine { return impl.Machine{State: impl.MsFail, Ask: impl.FlState} }

// failed: the machine as it was, but for the code.
func failed(m impl.Machine, code int) impl.Machine {
	m = cloneMachine(m)
	m.State, m.Ask, m.At, m.Arg = impl.MsFail, code, 0, 0
	return m
}

// behind: the machine one place on, with these nodes behind all, of which the last is the stack.
func behind(m impl.Machine, nodes ...impl.Node) impl.Machine {
	m = cloneMachine(m)
	m.Pool.Nodes = append(m.Pool.Nodes, nodes...)
	m.At++
	m.S = len(m.Pool.Nodes) - 1
	return m
}

func askMachine(t *testing.T, why string, c impl.Code, m impl.Machine, got impl.Machine, want impl.Machine) {
	t.Helper()
	if !sameMachine(got, want) {
		from := len(m.Pool.Nodes)
		t.Errorf("%s: %s\nof %s\ntold: %s\nasked: %s", why, listing(c), toldMachine(m, from-12), toldMachine(got, from), toldMachine(want, from))
	}
}

func askStep(t *testing.T, why string, c impl.Code, m impl.Machine, want impl.Machine) {
	t.Helper()
	if !impl.MachineOk(c, m) {
		t.Fatalf("%s: the machine is not right: %s", why, toldMachine(m, 0))
	}
	if !rightByRules(c, want) {
		t.Fatalf("%s: what is asked is not right: %s", why, toldMachine(want, 0))
	}
	askMachine(t, why, c, m, impl.Step(c, m), want)
}

func askFails(t *testing.T, why string, c impl.Code, m impl.Machine, code int) {
	t.Helper()
	askStep(t, why, c, m, failed(m, code))
}

// A bench is a pool that is built by hand.
type bench struct{ nodes []impl.Node }

func (b *bench) add(n impl.Node) int {
	b.nodes = append(b.nodes, n)
	return len(b.nodes) - 1
}

func (b *bench) list(values ...int) int {
	b.nodes = append(b.nodes, listNodes(len(b.nodes), values)...)
	return len(b.nodes) - 1
}

// ahead puts nodes first, so that no number is 0 by chance.
func newBench() *bench {
	return &bench{nodes: []impl.Node{symNode("first"), pairNode(0, 0), nilNode()}}
}

func (b *bench) machine(at int, s int, e int, d int) impl.Machine {
	return impl.Machine{Pool: poolOf(slices.Clone(b.nodes)...), At: at, S: s, E: e, D: d}
}

// aStack: a machine at a place, with a stack of the values of these nodes (the last one on its top), two frames and one that waits.
func aStack(at int, nodes ...impl.Node) impl.Machine {
	b := newBench()
	var values []int
	for _, n := range nodes {
		values = append(values, b.add(n))
	}
	slices.Reverse(values)
	e := b.list(b.list(0, 1), b.list(2))
	waits := b.list(b.list(b.add(intNode(0)), b.list(0), b.list(b.list())))
	return b.machine(at, b.list(values...), e, waits)
}

// filled: the machine with so many nodes behind all that there is room for just so many.
func filled(m impl.Machine, room int) impl.Machine {
	m = cloneMachine(m)
	m.Pool.Nodes = append(m.Pool.Nodes, slices.Repeat([]impl.Node{nilNode()}, impl.MaxNodes-room-len(m.Pool.Nodes))...)
	return m
}

func rightByRules(c impl.Code, m impl.Machine) bool {
	nodes := len(m.Pool.Nodes)
	for _, v := range []int{m.S, m.E, m.D} {
		if v < 0 || v >= nodes {
			return false
		}
	}
	place := m.At >= 0 && m.At < len(c.List)
	arg := m.Arg >= 0 && m.Arg < nodes
	fits := map[int]bool{
		impl.MsRun:  place && m.Ask == 0 && m.Arg == 0,
		impl.MsAsk:  place && slices.Contains([]int{13, 14, 15, 16, 17, 19}, m.Ask) && arg,
		impl.MsDone: m.At == 0 && m.Ask == 0 && arg,
		impl.MsFail: m.At == 0 && slices.Contains([]int{1, 2, 3, 4, 5, 6, 7}, m.Ask) && m.Arg == 0,
	}
	return impl.CodeOk(c) && impl.PoolOk(m.Pool) && fits[m.State]
}

func TestMachineNumbers(t *testing.T) {
	states := []int{impl.MsRun, impl.MsAsk, impl.MsDone, impl.MsFail}
	codes := []int{impl.FlName, impl.FlArgs, impl.FlCall, impl.FlType, impl.FlLimit, impl.FlFull, impl.FlState}
	if !slices.Equal(states, []int{0, 1, 2, 3}) || !slices.Equal(codes, []int{1, 2, 3, 4, 5, 6, 7}) {
		t.Error("numbers", states, codes)
	}
}

func askRight(t *testing.T, why string, c impl.Code, m impl.Machine, want bool) {
	t.Helper()
	if impl.MachineOk(c, m) != want {
		t.Errorf("%s: MachineOk is %v of %s", why, !want, toldMachine(m, 0))
	}
}

func TestMachineOkOfEachState(t *testing.T) {
	c := codeFrom(impl.Pool{}, "jump 1, pop, back")
	base := impl.Machine{Pool: poolOf(nilNode(), intNode(1), intNode(2)), S: 2, E: 1, D: 0}
	for _, x := range []struct {
		why   string
		state int
		at    []int
		ask   []int
		arg   []int
		noAt  []int
		noAsk []int
		noArg []int
	}{
		{"runs", impl.MsRun, []int{0, 1, 2}, []int{0}, []int{0}, []int{-1, 3, 4}, []int{1, -1, 12, 13, 7}, []int{1, -1, 2, 3}},
		{"asks", impl.MsAsk, []int{0, 1, 2}, []int{13, 14, 15, 16, 17, 19}, []int{0, 1, 2}, []int{-1, 3, 4}, []int{12, 18, 20, 0, -1, 1, 99}, []int{-1, 3, 4}},
		{"done", impl.MsDone, []int{0}, []int{0}, []int{0, 1, 2}, []int{1, 2, -1, 3}, []int{1, -1, 13, 7}, []int{-1, 3, 4}},
		{"fails", impl.MsFail, []int{0}, []int{1, 2, 3, 4, 5, 6, 7}, []int{0}, []int{1, 2, -1, 3}, []int{0, 8, -1, 13}, []int{1, 2, 3, -1}},
	} {
		far := []int{math.MinInt, math.MaxInt, 1 << 32, -1 << 32}
		for _, at := range x.at {
			for _, ask := range x.ask {
				for _, arg := range x.arg {
					m := base
					m.State, m.At, m.Ask, m.Arg = x.state, at, ask, arg
					askRight(t, x.why, c, m, true)
					for _, no := range slices.Concat(x.noAt, far) {
						n := m
						n.At = no
						askRight(t, x.why+", At", c, n, false)
					}
					for _, no := range slices.Concat(x.noAsk, far) {
						n := m
						n.Ask = no
						askRight(t, x.why+", Ask", c, n, false)
					}
					for _, no := range slices.Concat(x.noArg, far) {
						n := m
						n.Arg = no
						askRight(t, x.why+", Arg", c, n, false)
					}
				}
			}
		}
	}
}

func TestMachineOkOfOtherStates(t *testing.T) {
	c := codeFrom(impl.Pool{}, "jump 1, pop, back")
	for _, state := range []int{-1, 4, 5, 1 << 32, math.MinInt, math.MaxInt} {
		for ask := range 20 {
			askRight(t, "state", c, impl.Machine{Pool: poolOf(nilNode()), State: state, Ask: ask}, false)
		}
	}
}

// machinesToAsk: one in each state, all of them right for that code.
func machinesToAsk() (impl.Code, []impl.Machine) {
	c := codeFrom(poolOf(nilNode(), intNode(4), pairNode(1, 0)), "lit 2, call 0, back", impl.Def{Name: "main"})
	m := impl.Machine{Pool: poolOf(nilNode(), pairNode(0, 0), primNode(13), pairNode(2, 0)), S: 3, E: 1, D: 0}
	ask, done, fail := m, m, m
	ask.State, ask.Ask, ask.Arg, ask.At = impl.MsAsk, 13, 1, 2
	done.State, done.Arg = impl.MsDone, 2
	fail.State, fail.Ask = impl.MsFail, impl.FlType
	return c, []impl.Machine{m, ask, done, fail}
}

func TestMachineOkOfWhatIsNoNode(t *testing.T) {
	c, machines := machinesToAsk()
	for _, m := range machines {
		askRight(t, "as it is", c, m, true)
		for v := -2; v < 7; v++ {
			for i := range 3 {
				n := m
				*[]*int{&n.S, &n.E, &n.D}[i] = v
				askRight(t, "S, E, D", c, n, v >= 0 && v < 4)
			}
		}
		for _, v := range []int{math.MinInt, math.MaxInt, 1 << 32, impl.MaxNodes} {
			for i := range 3 {
				n := m
				*[]*int{&n.S, &n.E, &n.D}[i] = v
				askRight(t, "S, E, D", c, n, false)
			}
		}
		m.Pool = impl.Pool{}
		askRight(t, "no nodes", c, m, false)
	}
	askRight(t, "zero", impl.Code{}, impl.Machine{}, false)
	askRight(t, "zero", c, impl.Machine{}, false)
}

// brokenCodes: what is no code, each for one reason; each has three places, and a main that takes nothing.
func brokenCodes() map[string]impl.Code {
	with := func(turn func(c *impl.Code)) impl.Code {
		c, _ := machinesToAsk()
		turn(&c)
		return c
	}
	return map[string]impl.Code{
		"no node":        with(func(c *impl.Code) { c.List[0].N = 3 }),
		"no instruction": with(func(c *impl.Code) { c.List[2].Op = 10 }),
		"too many":       with(func(c *impl.Code) { c.List = append(c.List, backs(impl.MaxCode-2)...) }),
		"a broken pool":  with(func(c *impl.Code) { c.Pool.Nodes[0].N = 1 }),
		"twice":          with(func(c *impl.Code) { c.Defs = append(c.Defs, impl.Def{Name: "main"}) }),
		"no place":       with(func(c *impl.Code) { c.Defs = append(c.Defs, impl.Def{Name: "f", At: 3}) }),
		"backwards":      with(func(c *impl.Code) { c.List[1] = impl.Instr{Op: impl.OpJump, N: 1} }),
	}
}

// eachNotRight asks of machines in each state that are not right, each for one reason.
func eachNotRight(ask func(why string, c impl.Code, m impl.Machine)) {
	c, machines := machinesToAsk()
	for _, m := range machines {
		for why, b := range brokenCodes() {
			ask(why, b, m)
		}
		for why, p := range brokenPools() {
			n := m
			n.Pool = p
			ask(why, c, n)
			// The same nodes, with what the machine needs ahead of them.
			n.Pool = poolOf(slices.Concat(m.Pool.Nodes, p.Nodes)...)
			if !impl.PoolOk(n.Pool) {
				ask(why+", behind", c, n)
			}
		}
		for _, turn := range []func(m *impl.Machine){
			func(m *impl.Machine) { m.S = 4 }, func(m *impl.Machine) { m.E = -1 }, func(m *impl.Machine) { m.D = 4 },
			func(m *impl.Machine) { m.State = 4 }, func(m *impl.Machine) { m.State = -1 },
			func(m *impl.Machine) { m.At = 3 }, func(m *impl.Machine) { m.At = -1 },
			func(m *impl.Machine) { m.Ask = 18 }, func(m *impl.Machine) { m.Ask = 20 },
			func(m *impl.Machine) { m.Arg = 4 }, func(m *impl.Machine) { m.Arg = -1 },
		} {
			n := cloneMachine(m)
			turn(&n)
			ask("turned", c, n)
		}
	}
	ask("zero", impl.Code{}, impl.Machine{})
	ask("zero", c, impl.Machine{})
}

func TestWhatIsNotRight(t *testing.T) {
	value := poolOf(intNode(3))
	eachNotRight(func(why string, c impl.Code, m impl.Machine) {
		askRight(t, why, c, m, false)
		askMachine(t, why+", Step", c, m, impl.Step(c, m), noMachine())
		askMachine(t, why+", Answer", c, m, impl.Answer(c, m, value, 0), noMachine())
		askMachine(t, why+", Answer of nothing", c, m, impl.Answer(c, m, impl.Pool{}, 0), noMachine())
	})
}

func TestMachineNew(t *testing.T) {
	c := codeFrom(impl.Pool{}, "back, back, back, back", impl.Def{Name: "f", At: 1, Args: 1}, impl.Def{Name: "main", At: 2}, impl.Def{Name: "g", At: 3}, impl.Def{Name: "h"}, impl.Def{Name: "car", At: 1}, impl.Def{Name: "k", At: 3, Args: 4})
	for name, at := range map[string]int{"main": 2, "g": 3, "h": 0, "car": 1} {
		m, ok := impl.MachineNew(c, name)
		want := impl.Machine{Pool: poolOf(nilNode(), pairNode(0, 0)), At: at, S: 0, E: 1, D: 0}
		if !ok || !sameMachine(m, want) || !impl.MachineOk(c, m) {
			t.Errorf("the machine of %s: %v, %s", name, ok, toldMachine(m, 0))
		}
	}
	for _, name := range []string{"f", "k", "x", "", "mai", "mainn", "MAIN", "cdr", "+", "\x00", "g ", strings.Repeat("g", 4000)} {
		if m, ok := impl.MachineNew(c, name); ok || !sameMachine(m, impl.Machine{}) {
			t.Errorf("the machine of %q: %v, %s", name, ok, toldMachine(m, 0))
		}
	}
	for why, b := range brokenCodes() {
		if m, ok := impl.MachineNew(b, "main"); ok || !sameMachine(m, impl.Machine{}) {
			t.Errorf("MachineNew of a code that is not right (%s): %v, %s", why, ok, toldMachine(m, 0))
		}
	}
	if m, ok := impl.MachineNew(impl.Code{}, "main"); ok || !sameMachine(m, impl.Machine{}) {
		t.Error("MachineNew of nothing", m)
	}
}

// askBegun asks MachineOf, and what comes of it when there is none.
func askBegun(t *testing.T, why string, c impl.Code, p impl.Pool, f int, want bool) {
	t.Helper()
	m, ok := impl.MachineOf(c, p, f)
	asked := impl.Machine{}
	if want {
		n := len(p.Nodes)
		asked = impl.Machine{Pool: poolOf(slices.Concat(p.Nodes, []impl.Node{nilNode(), pairNode(n, p.Nodes[f].A)})...), At: p.Nodes[f].N / 8, S: n, E: n + 1, D: n}
	}
	if ok != want || !sameMachine(m, asked) {
		t.Errorf("%s: MachineOf %d: %v, told %s\nasked %s", why, f, ok, toldMachine(m, len(p.Nodes)-3), toldMachine(asked, len(p.Nodes)-3))
	}
	if ok && !impl.MachineOk(c, m) {
		t.Errorf("%s: MachineOf %d is not right", why, f)
	}
}

func TestMachineOf(t *testing.T) {
	c := codeFrom(impl.Pool{}, "back, back, back")
	var p impl.Pool
	p.Nodes = append(p.Nodes, kindsPool().Nodes...)
	for n := range 40 {
		p.Nodes = append(p.Nodes, funNode(n, 1+n%7))
	}
	for _, n := range []int{impl.MaxInt, 1000, 999999992, 8 * 400} {
		p.Nodes = append(p.Nodes, funNode(n, 4))
	}
	for f := range p.Nodes {
		n := p.Nodes[f]
		askBegun(t, "each", c, p, f, n.Kind == impl.KFun && n.N%8 == 0 && n.N <= 16)
	}
	for _, f := range []int{-1, len(p.Nodes), len(p.Nodes) + 1, math.MinInt, math.MaxInt, 1 << 32} {
		askBegun(t, "no node", c, p, f, false)
	}
	// What has the N of a function, but is none.
	q := poolOf(nilNode(), intNode(8), boolNode(0), primNode(8), pidNode(8), kontNode(0), pairNode(0, 0), symNode("x"))
	for f := range q.Nodes {
		askBegun(t, "no function", c, q, f, false)
	}
	askBegun(t, "nothing", c, impl.Pool{}, 0, false)
	one := poolOf(nilNode(), funNode(0, 0), funNode(8, 0))
	askBegun(t, "one place", codeFrom(impl.Pool{}, "back"), one, 1, true)
	askBegun(t, "one place", codeFrom(impl.Pool{}, "back"), one, 2, false)
	askBegun(t, "no place", impl.Code{}, one, 1, false)
	for why, b := range brokenCodes() {
		askBegun(t, why, b, one, 1, false)
	}
	for why, b := range brokenPools() {
		askBegun(t, why, c, b, 0, false)
		more := poolOf(slices.Concat(one.Nodes, b.Nodes)...)
		askBegun(t, why, c, more, 1, impl.PoolOk(more))
	}
}

func TestMachineOfAtTheLimit(t *testing.T) {
	c := codeFrom(impl.Pool{}, "back, back, back")
	for room := range 5 {
		p := filled(impl.Machine{Pool: poolOf(nilNode(), funNode(16, 0))}, room).Pool
		askBegun(t, "room", c, p, 1, room >= 2)
	}
}

// A machine of a function is the one that would be in it behind a call, but for what waits.
func TestMachineOfAFunctionGoesOn(t *testing.T) {
	c := programOf(t, "(define (f x) (fn () (+ x 3))) (f 4)")
	m, _ := impl.MachineNew(c, "main")
	m = runAll(c, m, 100)
	f := m.Arg
	begun, ok := impl.MachineOf(c, m.Pool, f)
	if !ok {
		t.Fatal("no machine of", m.Pool.Nodes[f])
	}
	end := runAll(c, begun, 100)
	if end.State != impl.MsDone || end.Pool.Nodes[end.Arg] != intNode(7) {
		t.Errorf("the function comes to %s", toldMachine(end, 0))
	}
}

func runAll(c impl.Code, m impl.Machine, steps int) impl.Machine {
	for i := 0; i < steps && m.State == impl.MsRun; i++ {
		m = impl.Step(c, m)
	}
	return m
}

func TestStepOfWhatDoesNotRun(t *testing.T) {
	c, machines := machinesToAsk()
	for _, m := range machines[1:] {
		askMachine(t, "Step", c, m, impl.Step(c, m), m)
		full := filled(m, 0)
		askMachine(t, "Step, full", c, full, impl.Step(c, full), full)
	}
}

func TestLit(t *testing.T) {
	p := poolOf(nilNode(), intNode(7), symNode("x"), pairNode(1, 0), intNode(9), pairNode(4, 3), funNode(17, 5), kontNode(6), pairNode(5, 5), boolNode(0), primNode(2), pidNode(3))
	for _, x := range []struct {
		n     int
		nodes func(a int) []impl.Node
	}{
		{0, func(a int) []impl.Node { return []impl.Node{nilNode()} }},
		{1, func(a int) []impl.Node { return []impl.Node{intNode(7)} }},
		{2, func(a int) []impl.Node { return []impl.Node{symNode("x")} }},
		{3, func(a int) []impl.Node { return []impl.Node{nilNode(), intNode(7), pairNode(a+1, a)} }},
		{5, func(a int) []impl.Node {
			return []impl.Node{nilNode(), intNode(7), pairNode(a+1, a), intNode(9), pairNode(a+3, a+2)}
		}},
		{6, func(a int) []impl.Node {
			return []impl.Node{nilNode(), intNode(7), pairNode(a+1, a), intNode(9), pairNode(a+3, a+2), funNode(17, a+4)}
		}},
		{7, func(a int) []impl.Node {
			return []impl.Node{nilNode(), intNode(7), pairNode(a+1, a), intNode(9), pairNode(a+3, a+2), funNode(17, a+4), kontNode(a + 5)}
		}},
		{8, func(a int) []impl.Node {
			return []impl.Node{nilNode(), intNode(7), pairNode(a+1, a), intNode(9), pairNode(a+3, a+2), pairNode(a+4, a+4)}
		}},
		{9, func(a int) []impl.Node { return []impl.Node{boolNode(0)} }},
		{10, func(a int) []impl.Node { return []impl.Node{primNode(2)} }},
		{11, func(a int) []impl.Node { return []impl.Node{pidNode(3)} }},
	} {
		c := codeFrom(p, fmt.Sprint("pop, lit ", x.n, ", back"))
		m := aStack(1, intNode(5), intNode(6))
		a := len(m.Pool.Nodes)
		nodes := x.nodes(a)
		askStep(t, "lit", c, m, behind(m, append(nodes, pairNode(a+len(nodes)-1, m.S))...))
	}
	// What is no list is a stack, as well: only what is taken asks for a pair.
	c := codeFrom(p, "lit 1, back")
	m := impl.Machine{Pool: poolOf(symNode("s"), intNode(1)), S: 0, E: 1, D: 1}
	askStep(t, "lit on no stack", c, m, behind(m, intNode(7), pairNode(2, 0)))
	askFails(t, "lit, the last one", codeFrom(p, "back, lit 1"), aStack(1), impl.FlState)
}

func TestVar(t *testing.T) {
	b := newBench()
	x, y, z := b.add(intNode(10)), b.add(intNode(11)), b.add(intNode(12))
	inner, outer := b.list(x, y), b.list(z)
	// The third frame and the list of frames end with no KNil.
	open := b.add(pairNode(y, x))
	e := b.add(pairNode(open, y))
	e = b.add(pairNode(b.list(), e))
	e = b.add(pairNode(outer, e))
	e = b.add(pairNode(inner, e))
	m := b.machine(1, b.list(z, z), e, 2)
	a := len(m.Pool.Nodes)
	for _, v := range [][3]int{{0, 0, x}, {0, 1, y}, {1, 0, z}, {3, 0, y}} {
		c := codeFrom(impl.Pool{}, fmt.Sprint("pop, var ", v[0], " ", v[1], ", back"))
		askStep(t, "var", c, m, behind(m, pairNode(v[2], m.S)))
		if a != len(m.Pool.Nodes) {
			t.Fatal("the pool grew")
		}
	}
	for _, v := range [][2]int{{0, 2}, {0, 3}, {1, 1}, {1, 3}, {2, 0}, {2, 1}, {3, 1}, {3, 2}, {4, 0}, {5, 0}, {20, 0}, {20, 3}} {
		c := codeFrom(impl.Pool{}, fmt.Sprint("pop, var ", v[0], " ", v[1], ", back"))
		askFails(t, "no such var", c, m, impl.FlState)
	}
	// A frame that is no list at all, and frames that are none.
	for _, n := range kindsPool().Nodes {
		k := kindsPool()
		k.Nodes = append(k.Nodes, n, pairNode(11, 11), n)
		m := impl.Machine{Pool: k, S: 0, E: 12, D: 0}
		c := codeFrom(impl.Pool{}, "var 0 0, back")
		if n.Kind == impl.KPair {
			askStep(t, "a frame", c, m, behind(m, pairNode(n.A, 0)))
		} else {
			askFails(t, "no frame", c, m, impl.FlState)
			m.E = 13
			askFails(t, "no frames", c, m, impl.FlState)
		}
	}
	askFails(t, "var, the last one", codeFrom(impl.Pool{}, "pop, var 0 0"), m, impl.FlState)
}

// Twenty frames out is the farthest that there is.
func TestVarFarOut(t *testing.T) {
	b := newBench()
	e := b.add(nilNode())
	for i := range 21 {
		v := b.add(intNode(20 - i))
		e = b.add(pairNode(b.list(v, v, v, b.add(intNode(50+20-i))), e))
	}
	m := b.machine(0, 2, e, 2)
	for _, out := range []int{0, 1, 19, 20} {
		for _, i := range []int{0, 3} {
			c := codeFrom(impl.Pool{}, fmt.Sprint("var ", out, " ", i, ", back"))
			got := impl.Step(c, m)
			want := intNode(out)
			if i == 3 {
				want = intNode(50 + out)
			}
			if got.State != impl.MsRun || got.Pool.Nodes[got.Pool.Nodes[got.S].A] != want {
				t.Errorf("var %d %d: %s", out, i, toldMachine(got, len(m.Pool.Nodes)))
			}
		}
	}
}

func TestGlobal(t *testing.T) {
	defs := []impl.Def{{Name: "f", At: 2, Args: 3}, {Name: "main", At: 1}, {Name: "car", At: 0, Args: 4}, {Name: "g", At: 0}}
	m := aStack(1, intNode(5))
	a := len(m.Pool.Nodes)
	for name, n := range map[string]int{"f": 19, "main": 8, "car": 4, "g": 0} {
		c := codeFrom(impl.Pool{}, "pop, global "+name+", back", defs...)
		askStep(t, "a definition", c, m, behind(m, nilNode(), funNode(n, a), pairNode(a+1, m.S)))
	}
	for i, b := range builtIn() {
		c := codeFrom(impl.Pool{}, "pop, global "+b.name+", back", defs...)
		if b.name == "car" {
			c.Defs = nil
		}
		askStep(t, "what is built in", c, m, behind(m, primNode(i+1), pairNode(a, m.S)))
	}
	for _, name := range []string{"x", "ff", "mai", "quote", "callc", "-+", "!", "null"} {
		c := codeFrom(impl.Pool{}, "pop, global "+name+", back", defs...)
		askFails(t, "no such name", c, m, impl.FlName)
		c = codeFrom(impl.Pool{}, "pop, global "+name, defs[1])
		askFails(t, "no such name, the last one", c, m, impl.FlName)
	}
	for _, name := range []string{"main", "cdr", "callcc"} {
		askFails(t, "a name, the last one", codeFrom(impl.Pool{}, "pop, global "+name, defs[1]), m, impl.FlState)
	}
	// The last place and the most values, of the longest code.
	long := impl.Code{List: append([]impl.Instr{{Op: impl.OpGlobal, S: "f"}}, backs(impl.MaxCode-1)...), Defs: []impl.Def{{Name: "f", At: 399, Args: 4}}}
	m.At = 0
	askStep(t, "far", long, m, behind(m, nilNode(), funNode(8*399+4, a), pairNode(a+1, m.S)))
}

func TestElse(t *testing.T) {
	taken := func(m impl.Machine, at int) impl.Machine {
		m = cloneMachine(m)
		m.At, m.S = at, m.Pool.Nodes[m.S].B
		return m
	}
	c := codeFrom(impl.Pool{}, "back, else 4, back, pop, back")
	last := codeFrom(impl.Pool{}, "back, else 2")
	end := codeFrom(impl.Pool{}, "back, else 3, back")
	for _, n := range []impl.Node{nilNode(), boolNode(0), boolNode(1), intNode(0), symNode("f"), pairNode(0, 0), funNode(0, 0), kontNode(0), primNode(0), pidNode(0)} {
		m := aStack(1, symNode("below"), n)
		to := 2
		if n == boolNode(0) {
			to = 4
		}
		askStep(t, "else", c, m, taken(m, to))
		askFails(t, "else, the last one", last, m, impl.FlState)
		if to == 2 {
			askStep(t, "else that could lead out", end, m, taken(m, 2))
		} else {
			askFails(t, "else that leads out", end, m, impl.FlState)
		}
	}
	for i, n := range kindsPool().Nodes {
		m := impl.Machine{Pool: kindsPool(), At: 1, S: i}
		if n.Kind == impl.KPair {
			askStep(t, "a pair as a stack", c, m, taken(m, 2))
		} else {
			askFails(t, "no stack", c, m, impl.FlState)
		}
	}
}

func TestJump(t *testing.T) {
	c := codeFrom(impl.Pool{}, "jump 1, jump 4, back, back, jump 6, jump 6, back, jump 8")
	for at, to := range map[int]int{0: 1, 1: 4, 4: 6, 5: 6} {
		m := aStack(at, intNode(3))
		want := cloneMachine(m)
		want.At = to
		askStep(t, "jump", c, m, want)
		m.S, want.S = 0, 0
		askStep(t, "jump with no stack", c, m, want)
	}
	askFails(t, "jump that leads out", c, aStack(7), impl.FlState)
	askFails(t, "jump that leads out", codeFrom(impl.Pool{}, "jump 2, back"), aStack(0), impl.FlState)
}

func TestFun(t *testing.T) {
	for takes := range 5 {
		c := codeFrom(impl.Pool{}, fmt.Sprint("pop, fun 3 ", takes, ", back, back, back"))
		m := aStack(1, intNode(3))
		a := len(m.Pool.Nodes)
		askStep(t, "fun", c, m, behind(m, funNode(24+takes, m.E), pairNode(a, m.S)))
	}
	// The frames may be anything: they are only known.
	m := impl.Machine{Pool: poolOf(symNode("s"), intNode(1)), S: 0, E: 1, D: 1}
	askStep(t, "fun", codeFrom(impl.Pool{}, "fun 1 2, back"), m, behind(m, funNode(10, 1), pairNode(2, 0)))
	long := impl.Code{List: append([]impl.Instr{{Op: impl.OpFun, N: 399, I: 4}}, backs(impl.MaxCode-1)...)}
	askStep(t, "far", long, m, behind(m, funNode(8*399+4, 1), pairNode(2, 0)))
}

func TestPop(t *testing.T) {
	c := codeFrom(impl.Pool{}, "back, pop, back")
	for i, n := range kindsPool().Nodes {
		m := impl.Machine{Pool: kindsPool(), At: 1, S: i, E: 2, D: 3}
		if n.Kind != impl.KPair {
			askFails(t, "no stack", c, m, impl.FlState)
			continue
		}
		want := cloneMachine(m)
		want.At, want.S = 2, n.B
		askStep(t, "pop", c, m, want)
		m.At = 0
		askFails(t, "pop, the last one", codeFrom(impl.Pool{}, "pop"), m, impl.FlState)
	}
}

// called: what a call makes behind the machine, node by node, with these values; the stack and what was called are told.
func called(m impl.Machine, fun impl.Node, values []int, stack int) impl.Machine {
	a := len(m.Pool.Nodes)
	n := cloneMachine(m)
	n.Pool.Nodes = append(n.Pool.Nodes, intNode(m.At+1), nilNode(), pairNode(m.E, a+1), pairNode(stack, a+2), pairNode(a, a+3), pairNode(a+4, m.D))
	n.D = a + 5
	n.Pool.Nodes = append(n.Pool.Nodes, listNodes(a+6, values)...)
	frame := len(n.Pool.Nodes) - 1
	n.Pool.Nodes = append(n.Pool.Nodes, pairNode(frame, fun.A), nilNode())
	n.E, n.S = frame+1, frame+2
	n.At = fun.N / 8
	return n
}

// below: the values of a stack from its top on, and what lies below them.
func below(m impl.Machine, count int) ([]int, int) {
	var values []int
	s := m.S
	for range count {
		values = append(values, m.Pool.Nodes[s].A)
		s = m.Pool.Nodes[s].B
	}
	slices.Reverse(values)
	return values, s
}

// someNodes: values, no two alike.
func someNodes(count int) []impl.Node {
	return []impl.Node{intNode(41), symNode("v"), boolNode(1), nilNode(), intNode(45), intNode(46)}[:count]
}

func TestCallOfAFunction(t *testing.T) {
	for count := range 5 {
		c := codeFrom(impl.Pool{}, fmt.Sprint("pop, call ", count, ", back, back"))
		for begins := range 4 {
			for takes := range 8 {
				fun := funNode(8*begins+takes, 1)
				m := aStack(1, append([]impl.Node{symNode("below"), fun}, someNodes(count)...)...)
				values, stack := below(m, count)
				_, stack = below(impl.Machine{Pool: m.Pool, S: stack}, 1)
				if takes == count {
					askStep(t, "a call", c, m, called(m, fun, values, stack))
				} else {
					askFails(t, "another number", c, m, impl.FlArgs)
				}
			}
		}
		for _, begins := range []int{4, 5, 400, impl.MaxInt/8 - 1} {
			m := aStack(1, append([]impl.Node{funNode(8*begins+count, 1)}, someNodes(count)...)...)
			askFails(t, "no place", c, m, impl.FlState)
			m = aStack(1, append([]impl.Node{funNode(8*begins+(count+1)%5, 1)}, someNodes(count)...)...)
			askFails(t, "another number and no place", c, m, impl.FlArgs)
		}
	}
}

// Told by hand from the first node to the last: a call of two values.
func TestCallNodeByNode(t *testing.T) {
	c := codeFrom(impl.Pool{}, "call 2, back, back")
	m := impl.Machine{Pool: poolOf(nilNode(), intNode(30), intNode(31), symNode("known"), funNode(18, 3), symNode("s"), pairNode(4, 5), pairNode(1, 6), pairNode(2, 7), symNode("e"), symNode("d")), S: 8, E: 9, D: 10}
	want := cloneMachine(m)
	want.Pool.Nodes = append(want.Pool.Nodes,
		intNode(1),       // 11: the place behind
		nilNode(),        // 12
		pairNode(9, 12),  // 13: the frames
		pairNode(5, 13),  // 14: the stack below what was called
		pairNode(11, 14), // 15
		pairNode(15, 10), // 16: what waits
		nilNode(),        // 17
		pairNode(2, 17),  // 18
		pairNode(1, 18),  // 19: the frame
		pairNode(19, 3),  // 20: the frames
		nilNode(),        // 21: the stack
	)
	want.At, want.S, want.E, want.D = 2, 21, 20, 16
	askStep(t, "a call", c, m, want)
}

func TestCallOfTheFirstTwelve(t *testing.T) {
	for _, x := range []struct {
		name   string
		values []impl.Node
		node   impl.Node
	}{
		{"+", []impl.Node{intNode(7), intNode(3)}, intNode(10)}, {"-", []impl.Node{intNode(7), intNode(3)}, intNode(4)}, {"*", []impl.Node{intNode(7), intNode(3)}, intNode(21)},
		{"<", []impl.Node{intNode(7), intNode(3)}, boolNode(0)}, {"<", []impl.Node{intNode(3), intNode(7)}, boolNode(1)}, {"=", []impl.Node{intNode(7), intNode(7)}, boolNode(1)},
		{"cons", []impl.Node{intNode(7), symNode("y")}, pairNode(4, 5)}, {"null?", []impl.Node{nilNode()}, boolNode(1)}, {"pair?", []impl.Node{nilNode()}, boolNode(0)},
		{"eq?", []impl.Node{intNode(7), intNode(7)}, boolNode(1)}, {"eq?", []impl.Node{intNode(7), nilNode()}, boolNode(0)}, {"not", []impl.Node{boolNode(0)}, boolNode(1)},
		{"+", []impl.Node{intNode(impl.MaxInt - 1), intNode(1)}, intNode(impl.MaxInt)}, {"-", []impl.Node{intNode(1 - impl.MaxInt), intNode(1)}, intNode(-impl.MaxInt)},
	} {
		c := codeFrom(impl.Pool{}, fmt.Sprint("pop, call ", len(x.values), ", back"))
		m := aStack(1, append([]impl.Node{primNode(numberOf(x.name))}, x.values...)...)
		_, stack := below(m, len(x.values)+1)
		a := len(m.Pool.Nodes)
		askStep(t, x.name, c, m, behind(m, x.node, pairNode(a, stack)))
	}
	c := codeFrom(impl.Pool{}, "pop, call 1, back")
	for name, v := range map[string]int{"car": 0, "cdr": 2} {
		m := aStack(1, primNode(numberOf(name)), pairNode(0, 2))
		_, stack := below(m, 2)
		askStep(t, name, c, m, behind(m, pairNode(v, stack)))
	}
}

func TestCallOfTheFirstTwelveThatFails(t *testing.T) {
	two, one := codeFrom(impl.Pool{}, "pop, call 2, back"), codeFrom(impl.Pool{}, "pop, call 1, back")
	for n := numberOf("+"); n <= numberOf("="); n++ {
		askFails(t, nameOf(n), two, aStack(1, primNode(n), intNode(1), boolNode(1)), impl.FlType)
		askFails(t, nameOf(n), two, aStack(1, primNode(n), pidNode(1), intNode(1)), impl.FlType)
	}
	for _, name := range []string{"car", "cdr"} {
		for _, n := range []impl.Node{nilNode(), intNode(1), funNode(0, 0), kontNode(0), symNode("x")} {
			askFails(t, name, one, aStack(1, primNode(numberOf(name)), n), impl.FlType)
		}
	}
	askFails(t, "+", two, aStack(1, primNode(1), intNode(impl.MaxInt), intNode(1)), impl.FlLimit)
	askFails(t, "-", two, aStack(1, primNode(2), intNode(-impl.MaxInt), intNode(1)), impl.FlLimit)
	askFails(t, "*", two, aStack(1, primNode(3), intNode(50000), intNode(20001)), impl.FlLimit)
}

func TestCallOfWhatIsBuiltInWithAnotherNumber(t *testing.T) {
	for count := range 5 {
		c := codeFrom(impl.Pool{}, fmt.Sprint("pop, call ", count, ", back"))
		for n := range 100 {
			takes := -1
			if n >= 1 && n <= len(builtIn()) {
				takes = builtIn()[n-1].takes
			}
			if takes != count {
				askFails(t, nameOf(n), c, aStack(1, append([]impl.Node{primNode(n)}, someNodes(count)...)...), impl.FlArgs)
			}
		}
	}
}

// asking: the machine that asks for n with these values, whose list is behind all.
func asking(m impl.Machine, n int, values []int, stack int) impl.Machine {
	want := behind(m, listNodes(len(m.Pool.Nodes), values)...)
	want.State, want.Ask, want.Arg, want.S = impl.MsAsk, n, len(want.Pool.Nodes)-1, stack
	return want
}

func TestCallThatAsks(t *testing.T) {
	for n := 13; n <= impl.Prims; n++ {
		if nameOf(n) == "callcc" {
			continue
		}
		takes := builtIn()[n-1].takes
		c := codeFrom(impl.Pool{}, fmt.Sprint("pop, call ", takes, ", back"))
		m := aStack(1, append([]impl.Node{symNode("below"), primNode(n)}, someNodes(takes)...)...)
		values, _ := below(m, takes)
		_, stack := below(m, takes+1)
		askStep(t, nameOf(n), c, m, asking(m, n, values, stack))
	}
	// Told by hand: send, with its two values in their order.
	c := codeFrom(impl.Pool{}, "call 2, back")
	m := impl.Machine{Pool: poolOf(nilNode(), pidNode(3), intNode(8), primNode(15), pairNode(3, 0), pairNode(1, 4), pairNode(2, 5)), S: 6}
	want := cloneMachine(m)
	want.Pool.Nodes = append(want.Pool.Nodes, nilNode(), pairNode(2, 7), pairNode(1, 8))
	want.At, want.S, want.State, want.Ask, want.Arg = 1, 0, impl.MsAsk, 15, 9
	askStep(t, "send", c, m, want)
}

func TestCallOfWhatCantBeCalled(t *testing.T) {
	for count := range 5 {
		c := codeFrom(impl.Pool{}, fmt.Sprint("pop, call ", count, ", back"))
		for _, n := range []impl.Node{nilNode(), boolNode(0), boolNode(1), intNode(8), symNode("car"), pairNode(0, 2), pidNode(0)} {
			askFails(t, "no function", c, aStack(1, append([]impl.Node{n}, someNodes(count)...)...), impl.FlCall)
		}
	}
}

func TestCallWithTooFewAndAsTheLast(t *testing.T) {
	for count := range 5 {
		c := codeFrom(impl.Pool{}, fmt.Sprint("pop, call ", count, ", back"))
		last := codeFrom(impl.Pool{}, fmt.Sprint("pop, call ", count))
		for have := range count + 1 {
			// Each of these is called elsewhere with all codes; here the stack alone counts.
			for _, n := range []impl.Node{funNode(count, 0), primNode(1), primNode(18), primNode(99), kontNode(0), intNode(1)} {
				m := aStack(1, slices.Repeat([]impl.Node{n}, have)...)
				askFails(t, "too few", c, m, impl.FlState)
				askFails(t, "too few, as the last", last, m, impl.FlState)
			}
		}
		for _, n := range []impl.Node{funNode(count, 0), funNode(count+1, 0), primNode(1), primNode(13), primNode(18), primNode(99), kontNode(0), intNode(1)} {
			m := aStack(1, append([]impl.Node{n}, someNodes(count)...)...)
			askFails(t, "as the last", last, m, impl.FlState)
		}
		// A stack that ends with what is no KNil has as many as it has.
		b := newBench()
		s := b.add(intNode(3))
		for range count {
			s = b.add(pairNode(2, s))
		}
		askFails(t, "too few, and open", c, b.machine(1, s, 1, 2), impl.FlState)
	}
	b := newBench()
	fun := b.add(funNode(1, 2))
	s := b.add(pairNode(1, b.add(pairNode(fun, b.add(symNode("end"))))))
	m := b.machine(0, s, 1, 2)
	askStep(t, "just enough, and open", codeFrom(impl.Pool{}, "call 1, back"), m, called(m, b.nodes[fun], []int{1}, b.nodes[b.nodes[s].B].B))
}

// caughtNodes: what callcc makes behind a nodes.
func caughtNodes(m impl.Machine, a int, stack int) []impl.Node {
	return []impl.Node{intNode(m.At + 1), nilNode(), pairNode(m.D, a+1), pairNode(m.E, a+2), pairNode(stack, a+3), pairNode(a, a+4), kontNode(a + 5)}
}

// withCaught: the machine with what callcc makes, and its number.
func withCaught(m impl.Machine, stack int) (impl.Machine, int) {
	a := len(m.Pool.Nodes)
	m = cloneMachine(m)
	m.Pool.Nodes = append(m.Pool.Nodes, caughtNodes(m, a, stack)...)
	return m, a + 6
}

func TestCatch(t *testing.T) {
	c := codeFrom(impl.Pool{}, "pop, call 1, back, back")
	catch := primNode(numberOf("callcc"))
	fun := funNode(25, 1)
	m := aStack(1, symNode("below"), catch, fun)
	_, stack := below(m, 2)
	n, kont := withCaught(m, stack)
	askStep(t, "of a function", c, m, called(n, fun, []int{kont}, stack))
	for _, takes := range []int{0, 2, 3, 4, 5, 6, 7} {
		askFails(t, "of a function of another number", c, aStack(1, catch, funNode(24+takes, 1)), impl.FlArgs)
	}
	askFails(t, "of a function at no place", c, aStack(1, catch, funNode(33, 1)), impl.FlState)

	for i, b := range builtIn() {
		m := aStack(1, symNode("below"), catch, primNode(i+1))
		_, stack := below(m, 2)
		n, kont := withCaught(m, stack)
		a := len(n.Pool.Nodes)
		switch {
		case b.takes != 1:
			askFails(t, "of "+b.name, c, m, impl.FlArgs)
		case b.name == "car" || b.name == "cdr":
			askFails(t, "of "+b.name, c, m, impl.FlType)
		case i < 12:
			askStep(t, "of "+b.name, c, m, behind(n, boolNode(0), pairNode(a, stack)))
		case b.name == "callcc":
			// What was caught first is called with what was caught then.
			n.Pool.Nodes = append(n.Pool.Nodes, caughtNodes(m, a, stack)...)
			askStep(t, "of "+b.name, c, m, behind(n, pairNode(a+6, stack)))
		default:
			askStep(t, "of "+b.name, c, m, asking(n, i+1, []int{kont}, stack))
		}
	}
	for _, n := range []int{0, 20, 99} {
		askFails(t, "of no number", c, aStack(1, catch, primNode(n)), impl.FlArgs)
	}
	for _, n := range []impl.Node{nilNode(), boolNode(1), intNode(1), symNode("x"), pairNode(0, 0), pidNode(1)} {
		askFails(t, "of what can't be called", c, aStack(1, catch, n), impl.FlCall)
	}
	askFails(t, "of a state that is none", c, aStack(1, catch, kontNode(2)), impl.FlState)
}

// Told by hand from the first node to the last.
func TestCatchNodeByNode(t *testing.T) {
	c := codeFrom(impl.Pool{}, "call 1, back, back")
	m := impl.Machine{Pool: poolOf(symNode("s"), symNode("e"), symNode("d"), symNode("known"), primNode(18), funNode(17, 3), pairNode(4, 0), pairNode(5, 6)), S: 7, E: 1, D: 2}
	want := cloneMachine(m)
	want.Pool.Nodes = append(want.Pool.Nodes,
		intNode(1),       // 8: the place behind
		nilNode(),        // 9
		pairNode(2, 9),   // 10: what waits
		pairNode(1, 10),  // 11: the frames
		pairNode(0, 11),  // 12: the stack
		pairNode(8, 12),  // 13
		kontNode(13),     // 14
		intNode(1),       // 15: the place behind
		nilNode(),        // 16
		pairNode(1, 16),  // 17
		pairNode(0, 17),  // 18
		pairNode(15, 18), // 19
		pairNode(19, 2),  // 20: what waits
		nilNode(),        // 21
		pairNode(14, 21), // 22: the frame
		pairNode(22, 3),  // 23: the frames
		nilNode(),        // 24: the stack
	)
	want.At, want.S, want.E, want.D = 2, 24, 23, 20
	askStep(t, "callcc", c, m, want)
}

// aKont: a machine that calls what was caught, of these four, with so many values.
func aKont(place impl.Node, count int) (impl.Machine, [3]int) {
	b := newBench()
	caught := [3]int{b.list(b.add(symNode("old"))), b.add(symNode("e")), b.add(symNode("d"))}
	kont := b.add(kontNode(b.list(b.add(place), caught[0], caught[1], caught[2])))
	return b.kontMachine(kont, count), caught
}

func (b *bench) kontMachine(kont int, count int) impl.Machine {
	values := []int{kont}
	for _, n := range someNodes(count) {
		values = append(values, b.add(n))
	}
	slices.Reverse(values)
	return b.machine(1, b.list(values...), b.list(), b.list())
}

func TestCallOfWhatWasCaught(t *testing.T) {
	c := codeFrom(impl.Pool{}, "pop, call 1, back, back")
	for at := range 4 {
		m, caught := aKont(intNode(at), 1)
		values, _ := below(m, 1)
		want := behind(m, pairNode(values[0], caught[0]))
		want.At, want.E, want.D = at, caught[1], caught[2]
		askStep(t, "what was caught", c, m, want)
	}
	for _, count := range []int{0, 2, 3, 4} {
		other := codeFrom(impl.Pool{}, fmt.Sprint("pop, call ", count, ", back, back"))
		for _, place := range []impl.Node{intNode(0), intNode(4), symNode("x")} {
			m, _ := aKont(place, count)
			askFails(t, "not one value", other, m, impl.FlArgs)
		}
	}
	for _, place := range []impl.Node{intNode(-1), intNode(4), intNode(impl.MaxInt), nilNode(), boolNode(1), pidNode(1), funNode(1, 0), primNode(1), symNode("x")} {
		m, _ := aKont(place, 1)
		askFails(t, "no place", c, m, impl.FlState)
	}
}

func TestCallOfNoStateThatWasCaught(t *testing.T) {
	c := codeFrom(impl.Pool{}, "pop, call 1, back, back")
	for count := range 7 {
		b := newBench()
		zero := b.add(intNode(0))
		m := b.kontMachine(b.add(kontNode(b.list(slices.Repeat([]int{zero}, count)...))), 1)
		if count != 4 {
			askFails(t, "no list of four", c, m, impl.FlState)
		} else if got := impl.Step(c, m); got.State != impl.MsRun {
			t.Errorf("a list of four: %s", toldMachine(got, 0))
		}
		// As many pairs, but no KNil at the end.
		b = newBench()
		zero = b.add(intNode(0))
		list := zero
		for range count {
			list = b.add(pairNode(zero, list))
		}
		askFails(t, "no list", c, b.kontMachine(b.add(kontNode(list)), 1), impl.FlState)
	}
	for v := range kindsPool().Nodes {
		b := &bench{nodes: kindsPool().Nodes}
		askFails(t, "no list", c, b.kontMachine(b.add(kontNode(v)), 1), impl.FlState)
	}
}

func TestBackWithNothingThatWaits(t *testing.T) {
	for _, c := range []impl.Code{codeFrom(impl.Pool{}, "back"), codeFrom(impl.Pool{}, "back, pop")} {
		b := newBench()
		v, w := b.add(intNode(8)), b.add(intNode(9))
		m := b.machine(0, b.list(v, w), 0, 2)
		want := cloneMachine(m)
		want.State, want.Arg, want.S = impl.MsDone, v, b.nodes[m.S].B
		askStep(t, "back", c, m, want)
	}
	c := codeFrom(impl.Pool{}, "pop, back")
	m := aStack(1, intNode(4))
	m.D = 2
	want := cloneMachine(m)
	want.State, want.At, want.Arg, want.S = impl.MsDone, 0, m.Pool.Nodes[m.S].A, m.Pool.Nodes[m.S].B
	askStep(t, "back", c, m, want)
}

func TestBackWithNothingOnTheStack(t *testing.T) {
	c := codeFrom(impl.Pool{}, "back, back")
	for i, n := range kindsPool().Nodes {
		if n.Kind == impl.KPair {
			continue
		}
		askFails(t, "no stack, nothing waits", c, impl.Machine{Pool: kindsPool(), S: i, D: 0}, impl.FlState)
		m := aStack(0)
		m.Pool.Nodes = append(m.Pool.Nodes, n)
		m.S = len(m.Pool.Nodes) - 1
		askFails(t, "no stack, one waits", c, m, impl.FlState)
	}
}

func TestBackWithSomethingThatWaits(t *testing.T) {
	c := codeFrom(impl.Pool{}, "pop, back, back, back")
	for at := range 4 {
		b := newBench()
		stack, frames := b.list(0), b.add(symNode("e"))
		rest := b.add(symNode("rest"))
		d := b.add(pairNode(b.list(b.add(intNode(at)), stack, frames), rest))
		v := b.add(intNode(70))
		m := b.machine(1, b.list(v, 0), 1, d)
		want := behind(m, pairNode(v, stack))
		want.At, want.E, want.D = at, frames, rest
		askStep(t, "back", c, m, want)
	}
}

func TestBackWithWhatIsNotSo(t *testing.T) {
	c := codeFrom(impl.Pool{}, "pop, back, back, back")
	ask := func(why string, make func(b *bench) int) {
		t.Helper()
		b := newBench()
		d := make(b)
		askFails(t, why, c, b.machine(1, b.list(0), 1, d), impl.FlState)
	}
	for _, n := range []impl.Node{boolNode(0), intNode(0), symNode("x"), funNode(0, 2), kontNode(2), primNode(1), pidNode(0)} {
		ask("no list", func(b *bench) int { return b.add(n) })
		ask("a list of what is none", func(b *bench) int { return b.list(b.add(n)) })
	}
	for _, place := range []impl.Node{intNode(-1), intNode(4), intNode(impl.MaxInt), boolNode(1), pidNode(1), funNode(1, 2), primNode(1), nilNode()} {
		ask("no place", func(b *bench) int { return b.list(b.list(b.add(place), 2, 2)) })
	}
	for _, kind := range []int{impl.KFun, impl.KKont} {
		ask("what hangs on a list of three", func(b *bench) int {
			return b.add(impl.Node{Kind: kind, A: b.list(b.add(intNode(0)), 2, 2)})
		})
	}
	for count := range 6 {
		if count != 3 {
			ask("not three", func(b *bench) int { return b.list(b.list(slices.Repeat([]int{b.add(intNode(0))}, count)...)) })
		}
		ask("open", func(b *bench) int {
			zero := b.add(intNode(0))
			list := zero
			for range count {
				list = b.add(pairNode(zero, list))
			}
			return b.list(list)
		})
	}
}

// A filling is a step, and how many nodes it makes.
type filling struct {
	why   string
	code  impl.Code
	m     impl.Machine
	makes int
}

func fillings() []filling {
	p := poolOf(nilNode(), intNode(7), pairNode(1, 0), symNode("x"), pairNode(2, 2))
	code := func(text string) impl.Code {
		return codeFrom(p, "pop, "+text+", back, back", impl.Def{Name: "f", At: 2, Args: 1})
	}
	list := []filling{
		{"lit of one", code("lit 1"), aStack(1), 2},
		{"lit of four", code("lit 4"), aStack(1), 5},
		{"var", code("var 0 1"), aStack(1), 1},
		{"a definition", code("global f"), aStack(1), 3},
		{"what is built in", code("global car"), aStack(1), 2},
		{"else", code("else 3"), aStack(1, boolNode(0)), 0},
		{"else that goes on", code("else 3"), aStack(1, boolNode(1)), 0},
		{"jump", code("jump 3"), aStack(1), 0},
		{"fun", code("fun 2 1"), aStack(1), 2},
		{"pop", code("pop"), aStack(1, nilNode()), 0},
		{"back, one waits", code("back"), aStack(1, nilNode()), 1},
		{"+", code("call 2"), aStack(1, primNode(1), intNode(1), intNode(1)), 2},
		{"car", code("call 1"), aStack(1, primNode(7), pairNode(0, 0)), 1},
		{"recv", code("call 0"), aStack(1, primNode(16)), 1},
		{"print", code("call 1"), aStack(1, primNode(13), intNode(1)), 2},
		{"send", code("call 2"), aStack(1, primNode(15), intNode(1), intNode(1)), 3},
		{"callcc of a function", code("call 1"), aStack(1, primNode(18), funNode(17, 0)), 17},
		{"callcc of not", code("call 1"), aStack(1, primNode(18), primNode(12)), 9},
		{"callcc of print", code("call 1"), aStack(1, primNode(18), primNode(13)), 9},
		{"callcc of callcc", code("call 1"), aStack(1, primNode(18), primNode(18)), 15},
	}
	for count := range 5 {
		m := aStack(1, append([]impl.Node{funNode(16+count, 1)}, someNodes(count)...)...)
		list = append(list, filling{fmt.Sprint("call ", count), code(fmt.Sprint("call ", count)), m, 9 + count})
	}
	done := aStack(1, nilNode())
	done.D = 2
	kont, _ := aKont(intNode(2), 1)
	caught, _ := aKont(intNode(2), 0)
	values, s := below(caught, 1)
	b := &bench{nodes: caught.Pool.Nodes}
	caught.S = b.add(pairNode(values[0], b.add(pairNode(b.add(primNode(18)), s))))
	caught.Pool.Nodes = b.nodes
	return append(list, filling{"back, nothing waits", code("back"), done, 0}, filling{"what was caught", code("call 1"), kont, 1}, filling{"callcc of what was caught", code("call 1"), caught, 8})
}

func TestStepsAtTheLimit(t *testing.T) {
	for _, f := range fillings() {
		for _, room := range []int{f.makes, f.makes + 1} {
			m := filled(f.m, room)
			got := impl.Step(f.code, m)
			if got.State == impl.MsFail || len(got.Pool.Nodes) != len(m.Pool.Nodes)+f.makes {
				t.Errorf("%s with room for %d: %s", f.why, room, toldMachine(got, len(m.Pool.Nodes)))
			}
			askMachine(t, f.why, f.code, m, got, steppedByRules(f.code, m))
		}
		for room := range f.makes {
			askFails(t, f.why+", no room", f.code, filled(f.m, room), impl.FlFull)
		}
	}
}

// Every code counts ahead of FlFull, however little room there is.
func TestFullIsTheLastReason(t *testing.T) {
	code := func(text string) impl.Code { return codeFrom(poolOf(nilNode()), text) }
	catch := primNode(18)
	noFrames := aStack(1)
	noFrames.E = 2
	noKont, _ := aKont(intNode(9), 1)
	kontOfTwo, _ := aKont(intNode(0), 2)
	waits := aStack(1, nilNode())
	waits.D = 1
	for _, x := range []struct {
		why  string
		c    impl.Code
		m    impl.Machine
		code int
	}{
		{"lit, the last one", code("pop, lit 0"), aStack(1), impl.FlState},
		{"no var", code("pop, var 0 0, back"), noFrames, impl.FlState},
		{"var, the last one", code("pop, var 0 0"), aStack(1), impl.FlState},
		{"no name", code("pop, global x, back"), aStack(1), impl.FlName},
		{"no name, the last one", code("pop, global x"), aStack(1), impl.FlName},
		{"a name, the last one", code("pop, global car"), aStack(1), impl.FlState},
		{"else, no stack", code("pop, else 2, back"), aStack(1), impl.FlState},
		{"else that leads out", code("pop, else 3, back"), aStack(1, boolNode(0)), impl.FlState},
		{"jump that leads out", code("pop, jump 3, back"), aStack(1), impl.FlState},
		{"too few", code("pop, call 2, back"), aStack(1, primNode(1), intNode(1)), impl.FlState},
		{"call, the last one", code("pop, call 1"), aStack(1, primNode(7), intNode(1)), impl.FlState},
		{"another number", code("pop, call 1, back"), aStack(1, funNode(8, 0), intNode(1)), impl.FlArgs},
		{"another number of what is built in", code("pop, call 1, back"), aStack(1, primNode(1), intNode(1)), impl.FlArgs},
		{"no place", code("pop, call 1, back"), aStack(1, funNode(25, 0), intNode(1)), impl.FlState},
		{"no function", code("pop, call 1, back"), aStack(1, intNode(1), intNode(1)), impl.FlCall},
		{"no pair", code("pop, call 1, back"), aStack(1, primNode(7), intNode(1)), impl.FlType},
		{"no number", code("pop, call 2, back"), aStack(1, primNode(1), intNode(1), nilNode()), impl.FlType},
		{"beyond", code("pop, call 2, back"), aStack(1, primNode(1), intNode(1), intNode(impl.MaxInt)), impl.FlLimit},
		{"callcc of no function", code("pop, call 1, back"), aStack(1, catch, intNode(1)), impl.FlCall},
		{"callcc of car", code("pop, call 1, back"), aStack(1, catch, primNode(7)), impl.FlType},
		{"callcc of cons", code("pop, call 1, back"), aStack(1, catch, primNode(6)), impl.FlArgs},
		{"callcc of a function of none", code("pop, call 1, back"), aStack(1, catch, funNode(8, 0)), impl.FlArgs},
		{"callcc of a function at no place", code("pop, call 1, back"), aStack(1, catch, funNode(25, 0)), impl.FlState},
		{"callcc of what was not caught", code("pop, call 1, back"), aStack(1, catch, kontNode(2)), impl.FlState},
		{"what was caught, no place", code("pop, call 1, back"), noKont, impl.FlState},
		{"what was caught, two values", code("pop, call 2, back"), kontOfTwo, impl.FlArgs},
		{"back, no stack", code("pop, back"), aStack(1), impl.FlState},
		{"back, what waits is not so", code("pop, back"), waits, impl.FlState},
		{"pop, no stack", code("pop, pop, back"), aStack(1), impl.FlState},
		{"pop, the last one", code("pop, pop"), aStack(1, nilNode()), impl.FlState},
	} {
		for _, room := range []int{0, 1, 2, 7, 100} {
			askFails(t, x.why, x.c, filled(x.m, room), x.code)
		}
	}
}

// A ruling is a step as the chapter tells it, one sentence after the other; what fails is a panic with its code.
type ruling struct {
	c impl.Code
	m impl.Machine
}

type aFail int

func steppedByRules(c impl.Code, m impl.Machine) (told impl.Machine) {
	if !rightByRules(c, m) {
		return noMachine()
	}
	if m.State != impl.MsRun {
		return cloneMachine(m)
	}
	defer func() {
		if code, ok := recover().(aFail); ok {
			told = failed(m, int(code))
		}
	}()
	r := &ruling{c: c, m: cloneMachine(m)}
	r.instr(c.List[m.At])
	r.must(r.m.State == impl.MsDone || r.m.At < len(c.List), impl.FlState)
	r.must(len(r.m.Pool.Nodes) <= impl.MaxNodes, impl.FlFull)
	return r.m
}

func (r *ruling) must(holds bool, code int) {
	if !holds {
		panic(aFail(code))
	}
}

func (r *ruling) node(v int) impl.Node { return r.m.Pool.Nodes[v] }

func (r *ruling) make(nodes ...impl.Node) int {
	r.m.Pool.Nodes = append(r.m.Pool.Nodes, nodes...)
	return len(r.m.Pool.Nodes) - 1
}

func (r *ruling) makeList(values ...int) int {
	return r.make(listNodes(len(r.m.Pool.Nodes), values)...)
}

func (r *ruling) put(v int) { r.m.S = r.make(pairNode(v, r.m.S)) }

func (r *ruling) part(v int, n int) int {
	for {
		r.must(r.node(v).Kind == impl.KPair, impl.FlState)
		if n == 0 {
			return r.node(v).A
		}
		v = r.node(v).B
		n--
	}
}

func (r *ruling) take() int {
	v := r.part(r.m.S, 0)
	r.m.S = r.node(r.m.S).B
	return v
}

// copy: what v hangs on is found by going down from it.
func (r *ruling) copy(p impl.Pool, v int) int {
	hangs := map[int]bool{}
	var down func(v int)
	down = func(v int) {
		if hangs[v] {
			return
		}
		hangs[v] = true
		switch n := p.Nodes[v]; n.Kind {
		case impl.KPair:
			down(n.A)
			down(n.B)
		case impl.KFun, impl.KKont:
			down(n.A)
		}
	}
	down(v)
	is := map[int]int{}
	for at, n := range p.Nodes {
		if hangs[at] {
			n.A, n.B = is[n.A], is[n.B]
			if n.Kind != impl.KPair {
				n.B = 0
			}
			if n.Kind != impl.KPair && n.Kind != impl.KFun && n.Kind != impl.KKont {
				n.A = 0
			}
			is[at] = r.make(n)
		}
	}
	return is[v]
}

func (r *ruling) instr(in impl.Instr) {
	next := r.m.At + 1
	switch in.Op {
	case impl.OpLit:
		r.put(r.copy(r.c.Pool, in.N))
	case impl.OpVar:
		r.put(r.part(r.part(r.m.E, in.N), in.I))
	case impl.OpGlobal:
		r.put(r.meaning(in.S))
	case impl.OpElse:
		if r.node(r.take()) == boolNode(0) {
			next = in.N
		}
	case impl.OpJump:
		next = in.N
	case impl.OpFun:
		r.put(r.make(funNode(8*in.N+in.I, r.m.E)))
	case impl.OpCall:
		r.must(next < len(r.c.List), impl.FlState)
		var values []int
		for range in.I + 1 {
			values = append([]int{r.take()}, values...)
		}
		r.m.At = next
		r.call(values[0], values[1:], next)
		return
	case impl.OpBack:
		v := r.take()
		if r.node(r.m.D).Kind == impl.KNil {
			r.m.State, r.m.Arg, r.m.At = impl.MsDone, v, 0
			return
		}
		state := r.state(r.part(r.m.D, 0), 3)
		r.m.At, r.m.S, r.m.E, r.m.D = r.node(state[0]).N, state[1], state[2], r.node(r.m.D).B
		r.put(v)
		return
	case impl.OpPop:
		r.take()
	}
	r.m.At = next
}

func (r *ruling) meaning(name string) int {
	for _, d := range r.c.Defs {
		if d.Name == name {
			return r.make(funNode(8*d.At+d.Args, r.make(nilNode())))
		}
	}
	for i, b := range builtIn() {
		if b.name == name {
			return r.make(primNode(i + 1))
		}
	}
	panic(aFail(impl.FlName))
}

// state: a list of so many, the first a KInt that is a place of the code.
func (r *ruling) state(v int, count int) []int {
	var list []int
	for r.node(v).Kind == impl.KPair {
		list = append(list, r.node(v).A)
		v = r.node(v).B
	}
	r.must(r.node(v).Kind == impl.KNil && len(list) == count, impl.FlState)
	place := r.node(list[0])
	r.must(place.Kind == impl.KInt && place.N >= 0 && place.N < len(r.c.List), impl.FlState)
	return list
}

func (r *ruling) call(f int, values []int, next int) {
	n := r.node(f)
	switch n.Kind {
	case impl.KFun:
		r.must(n.N%8 == len(values), impl.FlArgs)
		r.must(n.N/8 < len(r.c.List), impl.FlState)
		waits := r.makeList(r.make(intNode(next)), r.m.S, r.m.E)
		r.m.D = r.make(pairNode(waits, r.m.D))
		r.m.E = r.make(pairNode(r.makeList(values...), n.A))
		r.m.S = r.make(nilNode())
		r.m.At = n.N / 8
	case impl.KPrim:
		r.must(n.N >= 1 && n.N <= 19 && builtIn()[max(n.N, 1)%20-1].takes == len(values), impl.FlArgs)
		r.builtIn(nameOf(n.N), n.N, values, next)
	case impl.KKont:
		r.must(len(values) == 1, impl.FlArgs)
		state := r.state(n.A, 4)
		r.m.At, r.m.S, r.m.E, r.m.D = r.node(state[0]).N, state[1], state[2], state[3]
		r.put(values[0])
	default:
		panic(aFail(impl.FlCall))
	}
}

func (r *ruling) builtIn(name string, n int, values []int, next int) {
	var parts []impl.Node
	for _, v := range values {
		parts = append(parts, r.node(v))
	}
	switch name {
	case "callcc":
		caught := r.makeList(r.make(intNode(next)), r.m.S, r.m.E, r.m.D)
		r.call(values[0], []int{r.make(kontNode(caught))}, next)
	case "+", "-", "*", "<", "=":
		r.must(parts[0].Kind == impl.KInt && parts[1].Kind == impl.KInt, impl.FlType)
		fallthrough
	case "cons", "null?", "pair?", "not":
		node, fits := nodeByRules(r.m.Pool, name, values, parts)
		r.must(fits, impl.FlLimit)
		r.put(r.make(node))
	case "eq?":
		r.put(r.make(truthNode(impl.Same(r.m.Pool, values[0], values[1]))))
	case "car":
		r.must(parts[0].Kind == impl.KPair, impl.FlType)
		r.put(parts[0].A)
	case "cdr":
		r.must(parts[0].Kind == impl.KPair, impl.FlType)
		r.put(parts[0].B)
	default:
		r.m.State, r.m.Ask, r.m.Arg = impl.MsAsk, n, r.makeList(values...)
	}
}

// askPromise: a step leaves a machine that is right, and all that was known ahead as it was.
func askPromise(t *testing.T, c impl.Code, m impl.Machine, n impl.Machine) {
	t.Helper()
	ahead := len(m.Pool.Nodes)
	if !impl.MachineOk(c, n) || len(n.Pool.Nodes) < ahead || !slices.Equal(n.Pool.Nodes[:ahead], m.Pool.Nodes) {
		t.Fatalf("a step of %s\nof %s\nleaves %s", listing(c), toldMachine(m, 0), toldMachine(n, 0))
	}
}

// someCode: instructions in any order, of which most could be done.
func (r *aRandom) someCode() impl.Code {
	c := impl.Code{Pool: r.pool(1 + r.below(8))}
	names := []string{"f", "main", "car", "callcc", "print", "+", "x", "eq?"}
	count := 1 + r.below(10)
	for at := range count {
		in := impl.Instr{Op: 1 + r.below(9)}
		if r.below(3) == 0 {
			in.Op = impl.OpCall
		}
		switch in.Op {
		case impl.OpLit:
			in.N = r.below(len(c.Pool.Nodes))
		case impl.OpVar:
			in.N, in.I = r.below(3), r.below(3)
		case impl.OpGlobal:
			in.S = names[r.below(len(names))]
		case impl.OpElse, impl.OpJump:
			in.N = at + 1 + r.below(count-at)
		case impl.OpFun:
			if at == count-1 {
				in = impl.Instr{Op: impl.OpPop}
				break
			}
			in.N, in.I = at+1+r.below(count-at-1), r.below(5)
		case impl.OpCall:
			in.I = r.below(3)
		}
		c.List = append(c.List, in)
	}
	for _, name := range names[:r.below(4)] {
		c.Defs = append(c.Defs, impl.Def{Name: name, At: r.below(count), Args: r.below(5)})
	}
	return c
}

// someValue: a value that is worth calling, or that is any.
func (r *aRandom) someValue(b *bench, places int) int {
	switch r.below(8) {
	case 0:
		return b.add(funNode(8*r.below(places+r.below(2))+r.below(3), r.below(len(b.nodes))))
	case 1, 2:
		return b.add(primNode(r.below(21)))
	case 3:
		return b.add(kontNode(b.list(b.add(intNode(r.below(places+r.below(3)))), r.below(len(b.nodes)), r.below(len(b.nodes)), r.below(len(b.nodes)))))
	case 4:
		great := []int{impl.MaxInt, 1, 0, 50000, -impl.MaxInt, -3}[r.below(6)]
		return b.add(intNode(great))
	case 5:
		return b.add(primNode(numberOf("callcc")))
	}
	return r.below(len(b.nodes))
}

// someCall puts a call that could be done on a stack: what is built in and takes so many, or a function of so many.
func (r *aRandom) someCall(b *bench, s int, count int, places int) int {
	n := funNode(8*r.below(places)+count, r.below(len(b.nodes)))
	if p := 1 + r.below(impl.Prims); builtIn()[p-1].takes == count {
		n = primNode(p)
	}
	s = b.add(pairNode(b.add(n), s))
	for range count {
		v := b.add(intNode([]int{impl.MaxInt, 1, 2, -5, 50000, -impl.MaxInt, -3}[r.below(7)]))
		if r.below(4) == 0 {
			v = r.someValue(b, places)
		}
		s = b.add(pairNode(v, s))
	}
	return s
}

// someMachine: one that is right for the code, with lists as they should be, but for a few.
func (r *aRandom) someMachine(c impl.Code) impl.Machine {
	places := len(c.List)
	b := &bench{nodes: append([]impl.Node{nilNode()}, r.pool(r.below(10)).Nodes...)}
	values := func(most int) int {
		var list []int
		for range r.below(most) {
			list = append(list, r.someValue(b, places))
		}
		return b.list(list...)
	}
	m := impl.Machine{At: r.below(places)}
	m.S = values(6)
	if in := c.List[m.At]; in.Op == impl.OpCall && r.below(3) > 0 {
		m.S = r.someCall(b, m.S, in.I, places)
	}
	m.E = b.list(values(4), values(4), values(4))
	m.D = b.list(b.list(b.add(intNode(r.below(places+1))), values(3), b.list(values(2))))
	if r.below(3) == 0 {
		m.D = b.list()
	}
	if r.below(10) == 0 {
		*[]*int{&m.S, &m.E, &m.D}[r.below(3)] = r.below(len(b.nodes))
	}
	m.Pool.Nodes = b.nodes
	return m
}

func TestStepByRules(t *testing.T) {
	t.Parallel()
	r := &aRandom{x: 47}
	states, fails, ops := map[int]int{}, map[int]int{}, map[int]int{}
	for range 60000 {
		c := r.someCode()
		m := r.someMachine(c)
		want := steppedByRules(c, m)
		got := impl.Step(c, m)
		if !sameMachine(got, want) {
			t.Fatalf("%s\nof %s\ntold: %s\nasked: %s", listing(c), toldMachine(m, 0), toldMachine(got, len(m.Pool.Nodes)), toldMachine(want, len(m.Pool.Nodes)))
		}
		askPromise(t, c, m, got)
		states[got.State]++
		if got.State == impl.MsFail {
			fails[got.Ask]++
		} else {
			ops[c.List[m.At].Op]++
		}
	}
	for op := impl.OpLit; op <= impl.OpPop; op++ {
		if ops[op] < 500 {
			t.Errorf("the instructions were done so often: %v", ops)
		}
	}
	for code := impl.FlName; code <= impl.FlState; code++ {
		if fails[code] < 20 && code != impl.FlFull {
			t.Errorf("the codes came up so often: %v", fails)
		}
	}
	if states[impl.MsAsk] < 500 || states[impl.MsDone] < 500 {
		t.Errorf("the states came up so often: %v", states)
	}
}

func TestStepOfFullPoolsByRules(t *testing.T) {
	t.Parallel()
	r := &aRandom{x: 53}
	fails, full := map[int]int{}, 0
	for range 3000 {
		c := r.someCode()
		m := filled(r.someMachine(c), r.below(18))
		want := steppedByRules(c, m)
		if got := impl.Step(c, m); !sameMachine(got, want) {
			t.Fatalf("%s\nof %s\ntold: %s\nasked: %s", listing(c), toldMachine(m, impl.MaxNodes), toldMachine(got, len(m.Pool.Nodes)), toldMachine(want, len(m.Pool.Nodes)))
		}
		if want.State == impl.MsFail {
			fails[want.Ask]++
		} else if len(want.Pool.Nodes) == impl.MaxNodes {
			full++
		}
	}
	if fails[impl.FlFull] < 100 || fails[impl.FlState] < 200 || full < 30 {
		t.Errorf("the codes came up so often: %v; just full: %d", fails, full)
	}
}

// Machines that are turned at one place, most of which are not right then.
func TestMachineOkByRules(t *testing.T) {
	r := &aRandom{x: 59}
	met := map[bool]int{}
	for range 20000 {
		c := r.someCode()
		m := r.someMachine(c)
		m.State = r.below(4)
		m.At *= []int{0, 1}[r.below(2)]
		m.Ask = []int{0, 0, r.below(8), 12 + r.below(9)}[r.below(4)]
		m.Arg = []int{0, 0, r.below(len(m.Pool.Nodes) + 1)}[r.below(3)]
		if r.below(4) == 0 {
			*[]*int{&m.At, &m.S, &m.E, &m.D, &m.State, &m.Ask, &m.Arg}[r.below(7)] += r.below(60) - 30
		}
		want := rightByRules(c, m)
		met[want]++
		if impl.MachineOk(c, m) != want {
			t.Fatalf("MachineOk is %v of %s", !want, toldMachine(m, 0))
		}
		if got := impl.Step(c, m); !sameMachine(got, steppedByRules(c, m)) {
			t.Fatalf("Step of %s\ntold %s", toldMachine(m, 0), toldMachine(got, 0))
		}
	}
	if met[true] < 1000 || met[false] < 1000 {
		t.Error("so many were right, or not", met)
	}
}

// Promise 6, over whole programs: each step leaves what was, and what is asked goes on.
func TestProgramsStepByStep(t *testing.T) {
	r := &aRandom{x: 61}
	states := map[int]int{}
	for range 400 {
		p, list, how, _ := impl.Read(mixedPool(), r.program(0)+" (define (start) (f (print 1) (recv)))")
		c, made, _ := impl.Compile(p, list)
		if how != impl.RdDone || made != impl.CpDone {
			continue
		}
		for _, name := range []string{"main", "start"} {
			m, ok := impl.MachineNew(c, name)
			for steps := 0; ok && steps < 120 && (m.State == impl.MsRun || m.State == impl.MsAsk); steps++ {
				n, want := impl.Step(c, m), steppedByRules(c, m)
				if m.State == impl.MsAsk {
					q := r.pool(1 + r.below(5))
					v := r.below(len(q.Nodes))
					n, want = impl.Answer(c, m, q, v), answeredByRules(c, m, q, v)
				}
				if !sameMachine(n, want) {
					t.Fatalf("%s\nof %s\ntold: %s\nasked: %s", listing(c), toldMachine(m, 0), toldMachine(n, 0), toldMachine(want, 0))
				}
				askPromise(t, c, m, n)
				m = n
			}
			states[m.State]++
		}
	}
	if states[impl.MsRun] < 10 || states[impl.MsDone] < 30 || states[impl.MsFail] < 30 {
		t.Error("the programs came to so many ends", states)
	}
}

func TestPrograms(t *testing.T) {
	for _, x := range []struct{ text, want string }{
		{"5", "5"},
		{"()", "()"},
		{"(+ 2 3)", "5"},
		{"(- (* 6 7) (+ 1 1))", "40"},
		{"(if #f 1 2)", "2"},
		{"(if #t 1 2)", "1"},
		{"(if () 1 2)", "1"},
		{"(if (< 2 1) (quote yes) (quote no))", "no"},
		{"(do 1 2 3)", "3"},
		{"(let x 4 (* x x))", "16"},
		{"(let x 4 (let y 5 (- x y)))", "-1"},
		{"(let x 4 (let x 5 x))", "5"},
		{"(quote (a (b 3) #f))", "(a (b 3) #f)"},
		{"(cons 1 (quote (2 3)))", "(1 2 3)"},
		{"(car (cdr (quote (1 2 3))))", "2"},
		{"(eq? (quote (1 (2))) (cons 1 (cons (cons 2 ()) ())))", "#t"},
		{"((fn (a b c d) (cons a (cons b (cons c (cons d ()))))) 1 2 3 4)", "(1 2 3 4)"},
		{"((fn () 7))", "7"},
		{"(((fn (x) (fn (y) (- x y))) 10) 3)", "7"},
		{"(define (fact n) (if (< n 2) 1 (* n (fact (- n 1))))) (fact 10)", "3628800"},
		{"(define (fib n) (if (< n 2) n (+ (fib (- n 1)) (fib (- n 2))))) (fib 7)", "13"},
		{"(define (map f l) (if (null? l) () (cons (f (car l)) (map f (cdr l))))) (map (fn (x) (* x x)) (quote (1 2 3)))", "(1 4 9)"},
		{"(define (add n) (fn (x) (+ n x))) (let f (add 3) (let g (add 4) (cons (f 1) (g 1))))", "(4 . 5)"},
		{"(define (car x) (+ x 1)) (car 5)", "6"},
		{"(define (f car) (car 5)) (f (fn (x) (- x 1)))", "4"},
		{"car", "#prim7"},
		{"callcc", "#prim18"},
		{"(define (f) f) (null? f)", "#f"},
		// What is caught and called comes back there.
		{"(+ 1 (callcc (fn (k) 5)))", "6"},
		{"(+ 1 (callcc (fn (k) (k 5))))", "6"},
		{"(+ 1 (callcc (fn (k) (+ 100 (k 5)))))", "6"},
		{"(+ 1 (callcc (fn (k) (do (k 5) 6))))", "6"},
		{"(let k (callcc (fn (k) k)) (if (pair? k) (car k) (k (quote (7)))))", "7"},
		{"(define (f k) (do (k 3) 4)) (* 2 (callcc f))", "6"},
		{"(define (f) (callcc (fn (k) k))) (let k (f) (if (pair? k) (car k) (+ 1 (k (quote (9))))))", "9"},
		{"(+ 1 (callcc (fn (a) (+ 10 (callcc (fn (b) (a 5)))))))", "6"},
		{"(+ 1 (callcc (fn (a) (+ 10 (callcc (fn (b) (b 5)))))))", "16"},
		{"(callcc pair?)", "#f"},
		{"(let k (callcc callcc) (if (null? k) 8 (k ())))", "8"},
		{"(define (loop n k) (if (= n 0) (k 42) (+ 1 (loop (- n 1) k)))) (callcc (fn (k) (loop 10 k)))", "42"},
	} {
		c := programOf(t, x.text)
		m, ok := impl.MachineNew(c, "main")
		if !ok || m.S != 0 || m.D != 0 || m.Pool.Nodes[m.D].Kind != impl.KNil || m.At != c.Defs[impl.DefOf(c, "main")].At {
			t.Errorf("%s begins as %s", x.text, toldMachine(m, 0))
		}
		m = runAll(c, m, 5000)
		if m.State != impl.MsDone || writtenWhole(m.Pool, m.Arg) != x.want {
			t.Errorf("%s comes to state %d, %d; asked: %s", x.text, m.State, m.Ask, x.want)
		}
	}
}

func TestProgramsThatFail(t *testing.T) {
	for _, x := range []struct {
		text string
		code int
	}{
		{"x", impl.FlName}, {"(f 1)", impl.FlName}, {"(let x 1 y)", impl.FlName},
		{"((fn (x) x))", impl.FlArgs}, {"((fn () 1) 2)", impl.FlArgs}, {"(+ 1)", impl.FlArgs}, {"(recv 1)", impl.FlArgs}, {"(callcc)", impl.FlArgs}, {"(callcc (fn () 1))", impl.FlArgs}, {"((callcc (fn (k) k)))", impl.FlArgs},
		{"(1 2)", impl.FlCall}, {"(())", impl.FlCall}, {"((quote car) 1)", impl.FlCall}, {"(callcc 5)", impl.FlCall},
		{"(car 1)", impl.FlType}, {"(cdr ())", impl.FlType}, {"(+ 1 #t)", impl.FlType}, {"(callcc car)", impl.FlType},
		{"(* 1000000000 2)", impl.FlLimit}, {"(- -1000000000 1)", impl.FlLimit},
		{"(define (f) (f)) (f)", impl.FlFull}, {"(define (f n) (f (cons n n))) (f 1)", impl.FlFull},
	} {
		c := programOf(t, x.text)
		m, _ := impl.MachineNew(c, "main")
		var last impl.Machine
		for m.State == impl.MsRun {
			last = m
			m = impl.Step(c, m)
		}
		askMachine(t, x.text, c, last, m, failed(last, x.code))
		askMachine(t, x.text+", again", c, m, impl.Step(c, m), m)
	}
}

func answeredByRules(c impl.Code, m impl.Machine, p impl.Pool, v int) impl.Machine {
	if !rightByRules(c, m) {
		return noMachine()
	}
	if m.State != impl.MsAsk || !impl.PoolOk(p) || v < 0 || v >= len(p.Nodes) {
		return m
	}
	r := &ruling{c: c, m: cloneMachine(m)}
	r.put(r.copy(p, v))
	r.m.State, r.m.Ask, r.m.Arg = impl.MsRun, 0, 0
	if len(r.m.Pool.Nodes) > impl.MaxNodes {
		return failed(m, impl.FlFull)
	}
	return r.m
}

// anAsking: a machine that asks for n, with something on its stack.
func anAsking(n int) (impl.Code, impl.Machine) {
	takes := builtIn()[n-1].takes
	c := codeFrom(impl.Pool{}, fmt.Sprint("pop, call ", takes, ", pop, back"))
	m := impl.Step(c, aStack(1, append([]impl.Node{symNode("below"), primNode(n)}, someNodes(takes)...)...))
	return c, m
}

func TestAnswer(t *testing.T) {
	p := poolOf(intNode(1), nilNode(), symNode("no"), pairNode(0, 1), pairNode(3, 3), funNode(9, 4), kontNode(5), boolNode(1))
	for _, n := range []int{13, 14, 15, 16, 17, 19} {
		c, m := anAsking(n)
		if m.State != impl.MsAsk || m.Ask != n || m.At != 2 {
			t.Fatalf("%s does not ask: %s", nameOf(n), toldMachine(m, 0))
		}
		a := len(m.Pool.Nodes)
		for v, nodes := range map[int][]impl.Node{
			0: {intNode(1)},
			1: {nilNode()},
			3: {intNode(1), nilNode(), pairNode(a, a+1)},
			4: {intNode(1), nilNode(), pairNode(a, a+1), pairNode(a+2, a+2)},
			6: {intNode(1), nilNode(), pairNode(a, a+1), pairNode(a+2, a+2), funNode(9, a+3), kontNode(a + 4)},
			7: {boolNode(1)},
		} {
			want := behind(m, append(nodes, pairNode(a+len(nodes)-1, m.S))...)
			want.At, want.State, want.Ask, want.Arg = m.At, impl.MsRun, 0, 0
			got := impl.Answer(c, m, p, v)
			askMachine(t, fmt.Sprint(nameOf(n), " is answered ", v), c, m, got, want)
			askPromise(t, c, m, got)
		}
		// Its own pool may be the one of the answer.
		askMachine(t, "of its own", c, m, impl.Answer(c, m, m.Pool, m.Arg), answeredByRules(c, m, m.Pool, m.Arg))
	}
}

func TestAnswerOfWhatDoesNotAsk(t *testing.T) {
	c, machines := machinesToAsk()
	for _, m := range machines {
		if m.State == impl.MsAsk {
			continue
		}
		for _, v := range []int{0, -1, 1, 5} {
			askMachine(t, "Answer", c, m, impl.Answer(c, m, poolOf(intNode(1), intNode(2)), v), m)
		}
		full := filled(m, 0)
		askMachine(t, "Answer, full", c, full, impl.Answer(c, full, poolOf(intNode(1)), 0), full)
	}
}

func TestAnswerOfNoValue(t *testing.T) {
	c, m := anAsking(16)
	for _, m := range []impl.Machine{m, filled(m, 0)} {
		for _, v := range []int{-1, 2, 3, math.MinInt, math.MaxInt, 1 << 32} {
			askMachine(t, "no node", c, m, impl.Answer(c, m, poolOf(intNode(1), intNode(2)), v), m)
		}
		askMachine(t, "nothing", c, m, impl.Answer(c, m, impl.Pool{}, 0), m)
		for why, p := range brokenPools() {
			for _, v := range []int{0, 1, len(p.Nodes) - 1, len(p.Nodes), -1} {
				askMachine(t, why, c, m, impl.Answer(c, m, p, v), m)
			}
		}
	}
}

func TestAnswerAtTheLimit(t *testing.T) {
	c, m := anAsking(16)
	p := poolOf(intNode(1), nilNode(), symNode("no"), pairNode(0, 1), pairNode(3, 3))
	for v, makes := range []int{2, 2, 2, 4, 5} {
		for room := range 8 {
			m := filled(m, room)
			want := failed(m, impl.FlFull)
			if room >= makes {
				want = answeredByRules(c, m, p, v)
			}
			got := impl.Answer(c, m, p, v)
			askMachine(t, fmt.Sprint("room for ", room), c, m, got, want)
			askPromise(t, c, m, got)
		}
	}
	// The greatest value that there is finds room nowhere.
	whole := doubled(impl.MaxNodes - 1)
	askMachine(t, "the greatest", c, m, impl.Answer(c, m, whole, impl.MaxNodes-1), failed(m, impl.FlFull))
	askMachine(t, "its first node", c, m, impl.Answer(c, m, whole, 0), answeredByRules(c, m, whole, 0))
}

// Promise 6: what asks goes on with its answer.
func TestWhatAsksGoesOnWithItsAnswer(t *testing.T) {
	c := programOf(t, "(define (main) (cons (recv) (cons (print 5) (self))))")
	m, _ := impl.MachineNew(c, "main")
	for _, x := range []struct {
		ask    string
		arg    string
		answer impl.Pool
	}{{"recv", "()", poolOf(intNode(8))}, {"print", "(5)", poolOf(intNode(0), symNode("ok"))}, {"self", "()", poolOf(pidNode(3))}} {
		m = runAll(c, m, 100)
		if m.State != impl.MsAsk || nameOf(m.Ask) != x.ask || writtenWhole(m.Pool, m.Arg) != x.arg {
			t.Fatalf("asked: %s of %s; told: %s", x.ask, x.arg, toldMachine(m, 0))
		}
		askMachine(t, "Step of what asks", c, m, impl.Step(c, m), m)
		m = impl.Answer(c, m, x.answer, len(x.answer.Nodes)-1)
	}
	m = runAll(c, m, 100)
	if m.State != impl.MsDone || writtenWhole(m.Pool, m.Arg) != "(8 ok . #pid3)" {
		t.Errorf("what asked comes to %s", toldMachine(m, 0))
	}
}

// stepsToAsk: steps and answers that end with each of the codes, and with none.
func stepsToAsk() []filling {
	list := fillings()
	for _, f := range fillings() {
		if f.makes > 0 {
			list = append(list, filling{f.why + ", full", f.code, filled(f.m, f.makes-1), 0})
		}
	}
	c, machines := machinesToAsk()
	for _, m := range machines {
		list = append(list, filling{"a state", c, m, 0})
	}
	for _, p := range brokenPools() {
		list = append(list, filling{"not right", c, impl.Machine{Pool: p}, 0})
	}
	for _, b := range brokenCodes() {
		list = append(list, filling{"no code", b, machines[0], 0})
	}
	ask, m := anAsking(16)
	list = append(list, filling{"asks", ask, m, 0}, filling{"asks, full", ask, filled(m, 1), 0})
	fails := codeFrom(impl.Pool{}, "pop, call 1, back")
	for _, n := range []impl.Node{intNode(1), primNode(1), primNode(7), kontNode(2)} {
		list = append(list, filling{"fails", fails, aStack(1, n, intNode(1)), 0})
	}
	return list
}

// askMemory asks twice with memory that has spare room behind it, and spoils one answer and then what was handed in.
func askMemory(t *testing.T, why string, f filling, p impl.Pool, ask func(c impl.Code, m impl.Machine, p impl.Pool) impl.Machine) {
	t.Helper()
	pool, nodes := roomy(f.m.Pool)
	values, moreNodes := roomy(p)
	codePool, codeNodes := roomy(f.code.Pool)
	instrs := append(slices.Clone(f.code.List), impl.Instr{Op: 3, S: "spare"}, impl.Instr{Op: 4})
	defs := append(slices.Clone(f.code.Defs), impl.Def{Name: "spare"}, impl.Def{Name: "rest"})
	c := impl.Code{Pool: codePool, List: instrs[:len(f.code.List)], Defs: defs[:len(f.code.Defs)]}
	m := f.m
	m.Pool = pool
	before := [][]impl.Node{slices.Clone(nodes), slices.Clone(moreNodes), slices.Clone(codeNodes)}
	instrsBefore, defsBefore := slices.Clone(instrs), slices.Clone(defs)
	first := ask(c, m, values)
	kept := cloneMachine(first)
	second := ask(c, m, values)
	spoilNodes(second.Pool)
	if !slices.Equal(nodes, before[0]) || !slices.Equal(moreNodes, before[1]) || !slices.Equal(codeNodes, before[2]) || !slices.Equal(instrs, instrsBefore) || !slices.Equal(defs, defsBefore) {
		t.Errorf("%s: an argument was written into, or the answer shares its memory", why)
	}
	for _, spoilt := range [][]impl.Node{nodes, moreNodes, codeNodes} {
		spoilNodes(impl.Pool{Nodes: spoilt})
	}
	spoilCode(impl.Code{List: instrs, Defs: defs})
	if !sameMachine(first, kept) {
		t.Errorf("%s: the answer shares memory with an argument, or with another one", why)
	}
	if third := ask(f.code, f.m, p); !sameMachine(third, kept) {
		t.Errorf("%s: something is kept from call to call", why)
	}
}

func TestNothingIsWrittenByMachines(t *testing.T) {
	for _, f := range stepsToAsk() {
		for _, p := range []impl.Pool{mixedPool(), {}, poolOf(nilNode(), pairNode(0, 1))} {
			askMemory(t, "Step, "+f.why, f, p, func(c impl.Code, m impl.Machine, _ impl.Pool) impl.Machine { return impl.Step(c, m) })
			for _, v := range []int{0, 10, -1} {
				askMemory(t, "Answer, "+f.why, f, p, func(c impl.Code, m impl.Machine, p impl.Pool) impl.Machine { return impl.Answer(c, m, p, v) })
			}
		}
		for _, name := range []string{"main", "f", ""} {
			askMemory(t, "MachineNew, "+f.why, f, impl.Pool{}, func(c impl.Code, _ impl.Machine, _ impl.Pool) impl.Machine {
				m, _ := impl.MachineNew(c, name)
				return m
			})
		}
		for _, p := range []impl.Pool{poolOf(nilNode(), funNode(0, 0)), filled(impl.Machine{Pool: poolOf(nilNode(), funNode(0, 0))}, 1).Pool, mixedPool()} {
			for _, v := range []int{1, 8, -1} {
				askMemory(t, "MachineOf, "+f.why, f, p, func(c impl.Code, _ impl.Machine, p impl.Pool) impl.Machine {
					m, _ := impl.MachineOf(c, p, v)
					return m
				})
			}
		}
		askMemory(t, "MachineOk, "+f.why, f, impl.Pool{}, func(c impl.Code, m impl.Machine, _ impl.Pool) impl.Machine {
			impl.MachineOk(c, m)
			return impl.Machine{}
		})
	}
}
