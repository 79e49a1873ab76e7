package tests

import (
	"fmt"
	"math"
	"slices"
	"strings"
	"testing"

	"loop.example/g00189/impl"
)

const (
	lastPid = 1000000000
	mostBox = 20
	mostOut = 40
)

// asks are the numbers of all that can be asked.
func asks() []int { return []int{13, 14, 15, 16, 17, 19} }

func sameProc(a impl.Proc, b impl.Proc) bool {
	return a.Pid == b.Pid && sameMachine(a.M, b.M) && slices.Equal(a.Box, b.Box) && slices.Equal(a.Out, b.Out)
}

func cloneProc(p impl.Proc) impl.Proc {
	return impl.Proc{Pid: p.Pid, M: cloneMachine(p.M), Box: slices.Clone(p.Box), Out: slices.Clone(p.Out)}
}

func toldProc(p impl.Proc) string {
	return fmt.Sprintf("pid %d, box %.300q, out %.300q, %s", p.Pid, p.Box, p.Out, toldMachine(p.M, len(p.M.Pool.Nodes)-9))
}

func ran() impl.Act { return impl.Act{Kind: 0} }

func ended() impl.Act { return impl.Act{Kind: 1} }

func waits() impl.Act { return impl.Act{Kind: 2} }

// mail: so many values as they lie in a box, no two alike.
func mail(count int) []string {
	var list []string
	for i := range count {
		list = append(list, nodeBytes(nilNode(), intNode(i), pairNode(1, 0)))
	}
	return list
}

// printed: so many texts, no two alike.
func printed(count int) []string {
	var list []string
	for i := range count {
		list = append(list, fmt.Sprint("printed ", i))
	}
	return list
}

func procByRules(c impl.Code, p impl.Proc) bool {
	if p.Pid < 1 || p.Pid > 1000000000 || len(p.Box) > 20 || len(p.Out) > 40 || !rightByRules(c, p.M) {
		return false
	}
	for _, text := range p.Box {
		if _, ok := unpackedByRules(text); !ok {
			return false
		}
	}
	return !slices.ContainsFunc(p.Out, func(text string) bool { return len(text) > 400 })
}

// listByRules: the values of a list, if it is one.
func listByRules(p impl.Pool, v int) ([]int, bool) {
	var list []int
	for p.Nodes[v].Kind == impl.KPair {
		list = append(list, p.Nodes[v].A)
		v = p.Nodes[v].B
	}
	return list, p.Nodes[v].Kind == impl.KNil
}

// playedByRules: a step as the chapter tells it, one sentence after the other.
func playedByRules(c impl.Code, p impl.Proc, places int) (impl.Proc, impl.Act) {
	if !procByRules(c, p) {
		return impl.Proc{}, ended()
	}
	p = cloneProc(p)
	switch p.M.State {
	case impl.MsDone, impl.MsFail:
		return p, ended()
	case impl.MsRun:
		p.M = steppedByRules(c, p.M)
		if len(p.M.Pool.Nodes) > 2000 {
			p.M = tidiedByRules(p.M)
		}
		return p, ran()
	}
	return servedByRules(c, p, places)
}

func servedByRules(c impl.Code, p impl.Proc, places int) (impl.Proc, impl.Act) {
	m := p.M
	answered := func(of impl.Pool) impl.Proc {
		p.M = answeredByRules(c, m, of, len(of.Nodes)-1)
		return p
	}
	fails := func(code int) (impl.Proc, impl.Act) {
		p.M = failed(m, code)
		return p, ran()
	}
	values, isList := listByRules(m.Pool, m.Arg)
	if !isList || len(values) != builtIn()[m.Ask-1].takes {
		return fails(7)
	}
	node := func(i int) impl.Node { return m.Pool.Nodes[values[i]] }
	switch nameOf(m.Ask) {
	case "print":
		if len(p.Out) == 40 {
			return fails(6)
		}
		p.Out = append(p.Out, impl.Write(m.Pool, values[0]))
		return answered(poolOf(nilNode())), ran()
	case "self":
		return answered(poolOf(pidNode(p.Pid))), ran()
	case "send":
		if node(0).Kind != impl.KPid {
			return fails(4)
		}
		return answered(poolOf(nilNode())), impl.Act{Kind: 3, To: node(0).N, Text: packedByRules(m.Pool, values[1])}
	case "recv":
		if len(p.Box) == 0 {
			return p, waits()
		}
		first, _ := unpackedByRules(p.Box[0])
		p.Box = p.Box[1:]
		return answered(first), ran()
	case "spawn":
		if n := node(0); n.Kind != impl.KFun || n.N%8 != 0 || n.N/8 >= len(c.List) {
			return fails(4)
		}
		return p, impl.Act{Kind: 4, Text: packedByRules(m.Pool, values[0])}
	}
	if n := node(0); n.Kind != impl.KInt || n.N < 0 || n.N >= places {
		return fails(4)
	}
	return answered(poolOf(nilNode())), impl.Act{Kind: 5, To: node(0).N}
}

func textPieces(list ...string) []piece {
	pieces := numPieces(len(list))
	for _, text := range list {
		pieces = append(pieces, numPieces(len(text))...)
		pieces = append(pieces, piece{text, false})
	}
	return pieces
}

// procPieces: a process whose machine is written as these bytes, be they right or not.
func procPieces(pid int, machine string, box []string, out []string) []piece {
	pieces := append(numPieces(pid, len(machine)), piece{machine, false})
	return slices.Concat(pieces, textPieces(box...), textPieces(out...))
}

func procBytes(p impl.Proc) string {
	return joined(procPieces(p.Pid, machineBytes(tidiedByRules(p.M)), p.Box, p.Out))
}

func (r *looseReader) texts() []string {
	var list []string
	count := r.num()
	for len(list) < count && !r.bad {
		list = append(list, r.text())
	}
	return list
}

// procUnpackedByRules: the process of which the text is what is written of it, if there is one.
func procUnpackedByRules(c impl.Code, s string) (impl.Proc, bool) {
	r := &looseReader{rest: s}
	p := impl.Proc{Pid: r.num()}
	m, ok := machineUnpackedByRules(c, r.text())
	p.M, p.Box, p.Out = m, r.texts(), r.texts()
	if r.bad || !ok || !procByRules(c, p) || procBytes(p) != s {
		return impl.Proc{}, false
	}
	return p, true
}

func askProcOk(t *testing.T, why string, c impl.Code, p impl.Proc, want bool) {
	t.Helper()
	if impl.ProcOk(c, p) != want {
		t.Errorf("%s: ProcOk is %v of %s", why, !want, toldProc(p))
	}
}

func askPlay(t *testing.T, why string, c impl.Code, p impl.Proc, places int, want impl.Proc, act impl.Act) {
	t.Helper()
	got, told := impl.ProcStep(c, p, places)
	if !sameProc(got, want) || told != act {
		t.Errorf("%s: ProcStep with %d places of %s\ntells %.300q, %s\nnot %.300q, %s", why, places, toldProc(p), fmt.Sprintf("%+v", told), toldProc(got), fmt.Sprintf("%+v", act), toldProc(want))
	}
	if procByRules(c, p) && !impl.ProcOk(c, got) {
		t.Errorf("%s: ProcStep of %s\nleaves what is not right: %s", why, toldProc(p), toldProc(got))
	}
}

// askPlayFails asks that it fails, and that all else stays.
func askPlayFails(t *testing.T, why string, c impl.Code, p impl.Proc, places int, code int) {
	t.Helper()
	want := cloneProc(p)
	want.M.State, want.M.Ask, want.M.At, want.M.Arg = impl.MsFail, code, 0, 0
	askPlay(t, why, c, p, places, want, ran())
}

func askProcPack(t *testing.T, why string, c impl.Code, p impl.Proc, want string) {
	t.Helper()
	if s, ok := impl.ProcPack(c, p); s != want || !ok {
		t.Errorf("%s: ProcPack of %s\ntells %.300q, %v, not %.300q", why, toldProc(p), s, ok, want)
	}
}

func askNoProcPack(t *testing.T, why string, c impl.Code, p impl.Proc) {
	t.Helper()
	if s, ok := impl.ProcPack(c, p); s != "" || ok {
		t.Errorf("%s: ProcPack of %s\ntells %.300q, %v", why, toldProc(p), s, ok)
	}
}

func askProcUnpack(t *testing.T, why string, c impl.Code, s string, want impl.Proc) {
	t.Helper()
	if p, ok := impl.ProcRead(c, s); !sameProc(p, want) || !ok {
		t.Errorf("%s: ProcRead of %.300q\ntells %v, %s\nnot %s", why, s, ok, toldProc(p), toldProc(want))
	}
}

func askNoProcUnpack(t *testing.T, why string, c impl.Code, s string) {
	t.Helper()
	if p, ok := impl.ProcRead(c, s); !sameProc(p, impl.Proc{}) || ok {
		t.Errorf("%s: ProcRead of %.300q\ntells %v, %s", why, s, ok, toldProc(p))
	}
}

func askPost(t *testing.T, why string, c impl.Code, p impl.Proc, text string, want impl.Proc, done bool) {
	t.Helper()
	if got, ok := impl.ProcPost(c, p, text); !sameProc(got, want) || ok != done {
		t.Errorf("%s: ProcPost of %.200q to %s\ntells %v, %s\nnot %v, %s", why, text, toldProc(p), ok, toldProc(got), done, toldProc(want))
	}
}

// posted: the process with that text behind all in its box.
func posted(p impl.Proc, text string) impl.Proc {
	p = cloneProc(p)
	p.Box = append(p.Box, text)
	return p
}

// brokenProcs: what is no process, each for one reason, for a code of machinesToAsk.
func brokenProcs() map[string]impl.Proc {
	_, machines := machinesToAsk()
	list := map[string]impl.Proc{}
	with := func(why string, turn func(p *impl.Proc)) {
		for _, m := range machines {
			p := impl.Proc{Pid: 7, M: cloneMachine(m), Box: mail(2), Out: printed(2)}
			turn(&p)
			list[fmt.Sprint(why, ", state ", m.State)] = p
		}
	}
	for _, pid := range []int{0, -1, lastPid + 1, -lastPid, math.MaxInt, math.MinInt, 1 << 32} {
		with(fmt.Sprint("the pid ", pid), func(p *impl.Proc) { p.Pid = pid })
	}
	with("no machine", func(p *impl.Proc) { p.M = impl.Machine{} })
	with("another state", func(p *impl.Proc) { p.M.State = 4 })
	with("no place", func(p *impl.Proc) { p.M.At = 3 })
	with("no stack", func(p *impl.Proc) { p.M.S = 4 })
	with("no frames", func(p *impl.Proc) { p.M.E = -1 })
	with("no pool", func(p *impl.Proc) { p.M.Pool.Nodes[0].N = 1 })
	with("too much in the box", func(p *impl.Proc) { p.Box = mail(mostBox + 1) })
	with("far too much in the box", func(p *impl.Proc) { p.Box = mail(500) })
	for why, text := range noValues() {
		with(why+" in the box", func(p *impl.Proc) { p.Box = []string{text} })
		with(why+" behind others in the box", func(p *impl.Proc) { p.Box = append(mail(mostBox-1), text) })
		with(why+" ahead of others in the box", func(p *impl.Proc) { p.Box = append([]string{text}, mail(3)...) })
	}
	with("too much printed", func(p *impl.Proc) { p.Out = printed(mostOut + 1) })
	with("far too much printed", func(p *impl.Proc) { p.Out = printed(5000) })
	with("a long text printed", func(p *impl.Proc) { p.Out = []string{strings.Repeat("a", 401)} })
	with("a long text printed last", func(p *impl.Proc) { p.Out = append(printed(mostOut-1), strings.Repeat("\x00", 401)) })
	with("a very long text printed first", func(p *impl.Proc) { p.Out = append([]string{strings.Repeat("a", 70000)}, printed(1)...) })
	return list
}

// noValues: texts of which there is no ValueRead.
func noValues() map[string]string {
	return map[string]string{
		"an empty text":         "",
		"no nodes":              "\x00",
		"one node too few":      "\x02\x01",
		"bytes behind the end":  "\x01\x01\x01",
		"a longer number":       "\x81\x00\x01",
		"no kind":               "\x01\x0a",
		"what nothing hangs on": "\x02\x01\x01",
		"what is written":       "(a b)",
		"too many nodes":        nodeBytes(chain(impl.MaxNodes + 1).Nodes...),
	}
}

// rightProcs: processes that are right for a code of machinesToAsk, at the limits and between them.
func rightProcs() map[string]impl.Proc {
	_, machines := machinesToAsk()
	_, clutter := rightClutter()
	list := map[string]impl.Proc{}
	for i, m := range slices.Concat(machines, clutter) {
		add := func(why string, p impl.Proc) { list[fmt.Sprint(why, ", machine ", i)] = p }
		add("bare", impl.Proc{Pid: 1, M: m})
		add("the last pid", impl.Proc{Pid: lastPid, M: m, Box: mail(1), Out: printed(1)})
		add("a full box", impl.Proc{Pid: 130, M: m, Box: mail(mostBox), Out: printed(3)})
		add("all printed", impl.Proc{Pid: 2, M: m, Box: mail(3), Out: printed(mostOut)})
		add("both full", impl.Proc{Pid: 2, M: m, Box: mail(mostBox), Out: printed(mostOut)})
		add("one less of both", impl.Proc{Pid: 2, M: m, Box: mail(mostBox - 1), Out: printed(mostOut - 1)})
		add("texts of any bytes", impl.Proc{Pid: 2, M: m, Box: []string{"\x01\x01", "\x01\x01"}, Out: []string{"", "\x00\xff", strings.Repeat("\x80", 400), ""}})
		add("a full pool", impl.Proc{Pid: 2, M: filled(m, 0), Box: mail(1), Out: printed(1)})
	}
	return list
}

func TestProcNumbers(t *testing.T) {
	kinds := []int{impl.AcRan, impl.AcEnd, impl.AcWait, impl.AcSend, impl.AcSpawn, impl.AcGo}
	if !slices.Equal(kinds, []int{0, 1, 2, 3, 4, 5}) || impl.MaxBox != mostBox || impl.MaxOut != mostOut || impl.MaxPlaces != 3 {
		t.Error("numbers", kinds, impl.MaxBox, impl.MaxOut, impl.MaxPlaces)
	}
}

func TestProcOkAtEachEdge(t *testing.T) {
	c, machines := machinesToAsk()
	for why, p := range rightProcs() {
		askProcOk(t, why, c, p, true)
	}
	for why, p := range brokenProcs() {
		askProcOk(t, why, c, p, false)
	}
	for _, m := range machines {
		for _, x := range []struct {
			pid  int
			want bool
		}{{0, false}, {1, true}, {2, true}, {lastPid - 1, true}, {lastPid, true}, {lastPid + 1, false}, {-1, false}, {-lastPid, false}, {math.MinInt, false}, {math.MaxInt, false}} {
			askProcOk(t, "pid", c, impl.Proc{Pid: x.pid, M: m}, x.want)
		}
		for count := range 60 {
			askProcOk(t, "a box", c, impl.Proc{Pid: 1, M: m, Box: mail(count)}, count <= mostBox)
			askProcOk(t, "printed", c, impl.Proc{Pid: 1, M: m, Out: printed(count)}, count <= mostOut)
		}
		for _, length := range []int{0, 1, 399, 400, 401, 402, 800, 1 << 16} {
			for at := range 3 {
				out := printed(3)
				out[at] = strings.Repeat("x", length)
				askProcOk(t, "one printed", c, impl.Proc{Pid: 1, M: m, Out: out}, length <= 400)
			}
		}
	}
	askProcOk(t, "zero", impl.Code{}, impl.Proc{}, false)
	askProcOk(t, "zero", c, impl.Proc{}, false)
}

// Each place of a box is asked about: all values that there are, and what is none.
func TestProcOkOfValuesInTheBox(t *testing.T) {
	c, machines := machinesToAsk()
	m := machines[0]
	for _, nodes := range valuesToRead() {
		askProcOk(t, "a value", c, impl.Proc{Pid: 1, M: m, Box: []string{nodeBytes(nodes...)}}, true)
		askProcOk(t, "a value and a byte", c, impl.Proc{Pid: 1, M: m, Box: []string{nodeBytes(nodes...) + "\x00"}}, false)
	}
	askProcOk(t, "the greatest value", c, impl.Proc{Pid: 1, M: m, Box: []string{nodeBytes(chain(impl.MaxNodes).Nodes...)}}, true)
	for why, text := range noValues() {
		for count := 1; count <= mostBox; count++ {
			for at := range count {
				box := mail(count)
				box[at] = text
				askProcOk(t, why, c, impl.Proc{Pid: 1, M: m, Box: box}, false)
			}
		}
	}
}

func TestProcOkOfMachines(t *testing.T) {
	eachNotRight(func(why string, c impl.Code, m impl.Machine) {
		askProcOk(t, why, c, impl.Proc{Pid: 1, M: m}, false)
		askProcOk(t, why, c, impl.Proc{Pid: 1, M: m, Box: mail(2), Out: printed(2)}, false)
	})
	// A process that is done or failed needs no code.
	_, machines := machinesToAsk()
	for _, m := range machines {
		askProcOk(t, "a code without places", impl.Code{}, impl.Proc{Pid: 1, M: m}, m.State == impl.MsDone || m.State == impl.MsFail)
	}
}

func TestProcNew(t *testing.T) {
	c := codeFrom(impl.Pool{}, "back, back, back, back", impl.Def{Name: "f", At: 1, Args: 1}, impl.Def{Name: "main", At: 2}, impl.Def{Name: "g", At: 3}, impl.Def{Name: "car"}, impl.Def{Name: "k", At: 3, Args: 4})
	ask := func(why string, c impl.Code, name string, pid int, want impl.Proc, done bool) {
		t.Helper()
		p, ok := impl.ProcNew(c, name, pid)
		if ok != done || !sameProc(p, want) || ok != impl.ProcOk(c, p) {
			t.Errorf("%s: ProcNew of %q and %d tells %v, %s", why, name, pid, ok, toldProc(p))
		}
	}
	for name, at := range map[string]int{"main": 2, "g": 3, "car": 0} {
		m := impl.Machine{Pool: poolOf(nilNode(), pairNode(0, 0)), At: at, S: 0, E: 1, D: 0}
		for _, pid := range []int{1, 2, 4, 128, lastPid - 1, lastPid} {
			ask("a definition", c, name, pid, impl.Proc{Pid: pid, M: m}, true)
		}
		for _, pid := range []int{0, -1, -2, lastPid + 1, -lastPid, math.MinInt, math.MaxInt, 1 << 32} {
			ask("no pid", c, name, pid, impl.Proc{}, false)
		}
	}
	for _, pid := range []int{0, 1, 4, lastPid, lastPid + 1} {
		for _, name := range []string{"f", "k", "x", "", "mai", "mainn", "MAIN", "cdr", "\x00", strings.Repeat("g", 4000)} {
			ask("there is none", c, name, pid, impl.Proc{}, false)
		}
		for why, b := range brokenCodes() {
			ask(why, b, "main", pid, impl.Proc{}, false)
		}
		ask("nothing", impl.Code{}, "main", pid, impl.Proc{}, false)
	}
}

func TestPlayOfWhatIsNotRight(t *testing.T) {
	c, _ := machinesToAsk()
	for _, places := range []int{math.MinInt, -1, 0, 1, 3, 4, math.MaxInt} {
		for why, p := range brokenProcs() {
			askPlay(t, why, c, p, places, impl.Proc{}, ended())
		}
		askPlay(t, "zero", c, impl.Proc{}, places, impl.Proc{}, ended())
		askPlay(t, "zero", impl.Code{}, impl.Proc{}, places, impl.Proc{}, ended())
	}
	eachNotRight(func(why string, c impl.Code, m impl.Machine) {
		askPlay(t, why, c, impl.Proc{Pid: 1, M: m, Box: mail(2), Out: printed(2)}, 3, impl.Proc{}, ended())
	})
}

// What is over stays as it is, however much it has: it is not tidied.
func TestPlayOfWhatIsOver(t *testing.T) {
	c, machines := machinesToAsk()
	_, clutter := rightClutter()
	asked := 0
	for _, m := range slices.Concat(machines, clutter) {
		if m.State != impl.MsDone && m.State != impl.MsFail {
			continue
		}
		for _, m := range []impl.Machine{m, withNodes(m, 2000), withNodes(m, 2001), filled(m, 0)} {
			for _, p := range []impl.Proc{{Pid: 1, M: m}, {Pid: lastPid, M: m, Box: mail(mostBox), Out: printed(mostOut)}} {
				askPlay(t, "over", c, p, 3, p, ended())
				asked++
			}
		}
	}
	for code := impl.FlName; code <= impl.FlState; code++ {
		m := failed(machines[0], code)
		askPlay(t, "failed", c, impl.Proc{Pid: 1, M: m, Box: mail(1)}, 3, impl.Proc{Pid: 1, M: m, Box: mail(1)}, ended())
	}
	if asked != 32 {
		t.Error("so many were asked", asked)
	}
}

// A step of a machine that runs, whatever it comes to; box and outlet stay.
func TestPlayOfWhatRuns(t *testing.T) {
	states := map[int]int{}
	list := stepsToAsk()
	for _, f := range list {
		if f.m.State != impl.MsRun || !impl.MachineOk(f.code, f.m) {
			continue
		}
		p := impl.Proc{Pid: 5, M: f.m, Box: mail(3), Out: printed(mostOut)}
		want := p
		want.M = steppedByRules(f.code, f.m)
		if len(want.M.Pool.Nodes) > 2000 {
			want.M = tidiedByRules(want.M)
		}
		states[want.M.State]++
		for _, places := range []int{-1, 0, 3} {
			askPlay(t, f.why, f.code, p, places, want, ran())
		}
	}
	for state := range 4 {
		if states[state] == 0 {
			t.Error("none came to state", state)
		}
	}
}

// It is tidied behind a step that leaves more than KeepAbove, whatever that step was and did.
func TestPlayIsTidiedAboveKeepAbove(t *testing.T) {
	states := map[int]int{}
	steps := fillings()
	fails := codeFrom(impl.Pool{}, "pop, call 1, back, pop")
	for _, n := range []impl.Node{intNode(1), primNode(1), primNode(7), kontNode(2)} {
		steps = append(steps, filling{"fails", fails, aStack(1, n, intNode(1)), 0})
	}
	for _, f := range steps {
		for more := -1; more <= 2; more++ {
			p := impl.Proc{Pid: 5, M: withNodes(f.m, 2000+more-f.makes), Box: mail(1), Out: printed(1)}
			want := p
			want.M = steppedByRules(f.code, p.M)
			if len(want.M.Pool.Nodes) != 2000+more {
				t.Fatalf("%s: there should be %d nodes, not %d", f.why, 2000+more, len(want.M.Pool.Nodes))
			}
			if more > 0 {
				want.M = tidiedByRules(want.M)
				states[want.M.State]++
			}
			askPlay(t, fmt.Sprint(f.why, ", with ", 2000+more), f.code, p, 3, want, ran())
		}
	}
	for state := range 4 {
		if states[state] == 0 {
			t.Error("none was tidied that came to state", state)
		}
	}
}

// An answer may leave more than KeepAbove: it is no step of the machine, and it is not tidied behind it.
func TestPlayIsNotTidiedBehindAnswers(t *testing.T) {
	for _, count := range []int{1998, 1999, 2000, 2001, 2500} {
		for _, x := range answerable() {
			p := x.p
			p.M = withNodes(p.M, count)
			got, _ := impl.ProcStep(x.code, p, 3)
			if want := count + x.makes; len(got.M.Pool.Nodes) != want || got.M.State != impl.MsRun {
				t.Errorf("%s with %d nodes: there are %d then, state %d", x.why, count, len(got.M.Pool.Nodes), got.M.State)
			}
		}
	}
}

// askingOf: a machine of four places that asks for n, with the Arg that is put on a bench, and something on its stack.
func askingOf(n int, arg func(b *bench) int) (impl.Code, impl.Machine) {
	c := codeFrom(impl.Pool{}, "pop, pop, back, back")
	b := newBench()
	at := arg(b)
	e := b.list(b.list(0, 1), b.list(2))
	waits := b.list(b.list(b.add(intNode(0)), b.list(0), b.list(b.list())))
	m := b.machine(2, b.list(b.add(symNode("below"))), e, waits)
	m.State, m.Ask, m.Arg = impl.MsAsk, n, at
	if !impl.MachineOk(c, m) {
		panic("no machine")
	}
	return c, m
}

// askingFor: one that asks for n with the values of these nodes, which may hang on the first three of a bench.
func askingFor(n int, nodes ...impl.Node) (impl.Code, impl.Machine) {
	return askingOf(n, func(b *bench) int {
		var values []int
		for _, n := range nodes {
			values = append(values, b.add(n))
		}
		return b.list(values...)
	})
}

// An answering is a process that asks for what is answered, and how many nodes its answer makes.
type answering struct {
	why   string
	code  impl.Code
	p     impl.Proc
	makes int
	act   impl.Act
}

func answerable() []answering {
	var list []answering
	add := func(makes int, act impl.Act, n int, nodes ...impl.Node) {
		c, m := askingFor(n, nodes...)
		list = append(list, answering{nameOf(n), c, impl.Proc{Pid: 5, M: m, Box: mail(3), Out: printed(2)}, makes, act})
	}
	add(2, ran(), 13, symNode("word"))
	add(2, ran(), 14)
	add(2, impl.Act{Kind: 3, To: 9, Text: "\x01\x04\x04word"}, 15, pidNode(9), symNode("word"))
	add(4, ran(), 16)
	add(2, impl.Act{Kind: 5, To: 1}, 19, intNode(1))
	return list
}

// The nodes of values that are asked with: what would be answered, and what would fail.
func valuesToAskWith() []impl.Node {
	return []impl.Node{nilNode(), boolNode(0), intNode(0), intNode(1), intNode(3), intNode(-1), symNode("x"), pairNode(1, 2), funNode(8, 2), funNode(9, 2), funNode(8*4, 2), kontNode(1), primNode(13), pidNode(9)}
}

// Whatever else would fail, and whatever else would be told: a list of another number of values is asked about first.
func TestArgsOfAnotherNumber(t *testing.T) {
	t.Parallel()
	for _, n := range asks() {
		for count := range 6 {
			if count == builtIn()[n-1].takes {
				continue
			}
			for _, first := range valuesToAskWith() {
				c, m := askingFor(n, slices.Repeat([]impl.Node{first}, count)...)
				askArgsFail(t, fmt.Sprint(nameOf(n), " of ", count), c, m)
			}
		}
	}
}

func askArgsFail(t *testing.T, why string, c impl.Code, m impl.Machine) {
	t.Helper()
	for _, m := range []impl.Machine{m, filled(m, 0)} {
		for _, p := range []impl.Proc{
			{Pid: 5, M: m},
			{Pid: 5, M: m, Box: mail(2), Out: printed(2)},
			{Pid: lastPid, M: m, Box: mail(mostBox), Out: printed(mostOut)},
		} {
			for _, places := range []int{-1, 3} {
				askPlayFails(t, why, c, p, places, impl.FlState)
			}
		}
	}
}

func TestArgsThatAreNoList(t *testing.T) {
	for _, n := range asks() {
		takes := builtIn()[n-1].takes
		for _, end := range valuesToAskWith() {
			if end.Kind == impl.KNil || end.Kind == impl.KPair {
				continue
			}
			// As many pairs as it takes values, or one less or more, and what they end with is no KNil.
			for count := max(0, takes-1); count <= takes+1; count++ {
				for _, first := range valuesToAskWith() {
					c, m := askingOf(n, func(b *bench) int {
						value, at := b.add(first), b.add(end)
						for range count {
							at = b.add(pairNode(value, at))
						}
						return at
					})
					p := impl.Proc{Pid: 5, M: m, Box: mail(1), Out: printed(mostOut)}
					askPlayFails(t, nameOf(n)+", no list", c, p, 3, impl.FlState)
					if first.Kind == impl.KPid && end.Kind == impl.KSym {
						askArgsFail(t, nameOf(n)+", no list", c, m)
					}
				}
			}
		}
	}
}

// A list may share, and stand where it will: only its values count.
func TestArgsThatShare(t *testing.T) {
	c, m := askingOf(15, func(b *bench) int {
		who := b.add(pidNode(3))
		return b.add(pairNode(who, b.add(pairNode(who, 2))))
	})
	want := answeredByRules(c, m, poolOf(nilNode()), 0)
	askPlay(t, "send", c, impl.Proc{Pid: 5, M: m}, 3, impl.Proc{Pid: 5, M: want}, impl.Act{Kind: 3, To: 3, Text: "\x01\x09\x03"})
	// Arg may be the stack, or the frames.
	m.Ask, m.Arg = 13, m.S
	want = answeredByRules(c, m, poolOf(nilNode()), 0)
	askPlay(t, "print", c, impl.Proc{Pid: 5, M: m}, 3, impl.Proc{Pid: 5, M: want, Out: words("below")}, ran())
}

// answeredWith: the machine with one node behind it, and a KPair of that and the stack.
func answeredWith(m impl.Machine, n impl.Node) impl.Machine {
	m = cloneMachine(m)
	count := len(m.Pool.Nodes)
	m.Pool.Nodes = append(m.Pool.Nodes, n, pairNode(count, m.S))
	m.S, m.State, m.Ask, m.Arg = count+1, impl.MsRun, 0, 0
	return m
}

func TestPrint(t *testing.T) {
	for _, x := range []struct {
		n    impl.Node
		text string
	}{
		{nilNode(), "()"}, {boolNode(0), "#f"}, {boolNode(1), "#t"}, {intNode(-5), "-5"}, {symNode("x"), "x"}, {pairNode(0, 2), "(first)"},
		{pairNode(0, 0), "(first . first)"}, {funNode(17, 2), "#fun17"}, {kontNode(2), "#kont0"}, {primNode(13), "#prim13"}, {pidNode(9), "#pid9"},
	} {
		c, m := askingFor(13, x.n)
		for count := range mostOut {
			p := impl.Proc{Pid: 5, M: m, Box: mail(count % 3), Out: printed(count)}
			want := impl.Proc{Pid: 5, M: answeredWith(m, nilNode()), Box: mail(count % 3), Out: append(printed(count), x.text)}
			askPlay(t, x.text, c, p, count%4, want, ran())
		}
		p := impl.Proc{Pid: 5, M: m, Box: mail(2), Out: printed(mostOut)}
		askPlayFails(t, x.text+", too much is printed", c, p, 3, impl.FlFull)
		p.M = filled(m, 0)
		askPlayFails(t, x.text+", too much is printed, and no room", c, p, 3, impl.FlFull)
	}
}

// A value whose Write is as long as a text may be is printed; one that is longer is printed as Write tells it: as nothing.
func TestPrintOfWhatIsLong(t *testing.T) {
	for pad := 1; pad <= impl.MaxName; pad++ {
		for _, many := range []int{190, 193, 194, 195, 196, 197, 198, 199, 200} {
			text := "(" + strings.Repeat("y", pad) + strings.Repeat(" x", many) + ")"
			c, m := askingOf(13, func(b *bench) int {
				values := slices.Repeat([]int{b.add(symNode("x"))}, many)
				return b.list(b.list(append([]int{b.add(symNode(strings.Repeat("y", pad)))}, values...)...))
			})
			if len(text) > 400 {
				text = ""
			}
			p := impl.Proc{Pid: 5, M: m, Out: printed(mostOut - 1)}
			want := impl.Proc{Pid: 5, M: answeredWith(m, nilNode()), Out: append(printed(mostOut-1), text)}
			askPlay(t, fmt.Sprint("a text of ", 2+pad+2*many), c, p, 3, want, ran())
		}
	}
	// More parts than could be gone through.
	c, m := askingOf(13, func(b *bench) int {
		at := b.add(intNode(1))
		for range 60 {
			at = b.add(pairNode(at, at))
		}
		return b.list(at)
	})
	askPlay(t, "doubled", c, impl.Proc{Pid: 5, M: m}, 3, impl.Proc{Pid: 5, M: answeredWith(m, nilNode()), Out: words("")}, ran())
}

func TestSelf(t *testing.T) {
	c, m := askingFor(14)
	for _, pid := range []int{1, 2, 4, 127, 128, lastPid - 1, lastPid} {
		p := impl.Proc{Pid: pid, M: m, Box: mail(2), Out: printed(mostOut)}
		want := p
		want.M = answeredWith(m, pidNode(pid))
		for _, places := range []int{-1, 0, 3} {
			askPlay(t, "self", c, p, places, want, ran())
		}
	}
}

func TestSend(t *testing.T) {
	p := impl.Proc{Pid: 5, Box: mail(2), Out: printed(mostOut)}
	for _, to := range valuesToAskWith() {
		if to.Kind == impl.KPid {
			continue
		}
		c, m := askingFor(15, to, pidNode(9))
		p.M = m
		askPlayFails(t, "to what is no pid", c, p, 3, impl.FlType)
		p.M = filled(m, 0)
		askPlayFails(t, "to what is no pid, and no room", c, p, 3, impl.FlType)
	}
	for _, to := range []int{0, 1, 5, 9, 128, lastPid} {
		for _, x := range []struct {
			n    impl.Node
			text string
		}{
			{nilNode(), "\x01\x01"}, {symNode("word"), "\x01\x04\x04word"}, {intNode(-1), "\x01\x03\xff\x93\xeb\xdc\x03"}, {pidNode(7), "\x01\x09\x07"}, {primNode(13), "\x01\x08\x0d"}, {boolNode(1), "\x01\x02\x01"},
			{funNode(17, 2), "\x02\x01\x06\x11\x00"}, {kontNode(1), "\x03\x04\x05first\x05\x00\x00\x07\x01"}, {pairNode(2, 0), "\x03\x04\x05first\x01\x05\x01\x00"},
		} {
			c, m := askingFor(15, pidNode(to), x.n)
			p.M = m
			want := cloneProc(p)
			want.M = answeredWith(m, nilNode())
			askPlay(t, "send", c, p, 0, want, impl.Act{Kind: 3, To: to, Text: x.text})
		}
	}
}

// Who is sent to is the first value, whatever the second is.
func TestSendOfPids(t *testing.T) {
	c, m := askingFor(15, pidNode(3), pidNode(4))
	p := impl.Proc{Pid: 5, M: m}
	askPlay(t, "send", c, p, 3, impl.Proc{Pid: 5, M: answeredWith(m, nilNode())}, impl.Act{Kind: 3, To: 3, Text: "\x01\x09\x04"})
	// The greatest value that a machine can have: its whole pool but for a few.
	c, m = askingOf(15, func(b *bench) int {
		at := 2
		for range 2950 {
			at = b.add(pairNode(0, at))
		}
		return b.list(b.add(pidNode(3)), at)
	})
	values, _ := listByRules(m.Pool, m.Arg)
	text := packedByRules(m.Pool, values[1])
	if q, v, ok := impl.ValueRead(text); !ok || impl.SizeOf(q, v) != 2*2950+1 {
		t.Fatal("it should be great", ok, v)
	}
	askPlay(t, "send of the greatest", c, impl.Proc{Pid: 5, M: m}, 3, impl.Proc{Pid: 5, M: answeredWith(m, nilNode())}, impl.Act{Kind: 3, To: 3, Text: text})
}

func TestRecv(t *testing.T) {
	c, m := askingFor(16)
	for _, m := range []impl.Machine{m, withNodes(m, 2000), withNodes(m, 2500), filled(m, 1), filled(m, 0)} {
		for _, out := range [][]string{nil, printed(3), printed(mostOut)} {
			p := impl.Proc{Pid: 5, M: m, Out: out}
			askPlay(t, "an empty box", c, p, 3, p, waits())
		}
	}
	for count := 1; count <= mostBox; count++ {
		p := impl.Proc{Pid: 5, M: m, Box: mail(count), Out: printed(mostOut)}
		want := cloneProc(p)
		a := len(m.Pool.Nodes)
		want.M.Pool.Nodes = append(want.M.Pool.Nodes, nilNode(), intNode(0), pairNode(a+1, a), pairNode(a+2, m.S))
		want.M.S, want.M.State, want.M.Ask, want.M.Arg = a+3, impl.MsRun, 0, 0
		want.Box = mail(count)[1:]
		askPlay(t, fmt.Sprint(count, " in the box"), c, p, 3, want, ran())
	}
	// Two that are alike are two.
	p := impl.Proc{Pid: 5, M: m, Box: []string{"\x01\x01", "\x01\x01", "\x01\x02\x01"}}
	want := impl.Proc{Pid: 5, M: answeredWith(m, nilNode()), Box: []string{"\x01\x01", "\x01\x02\x01"}}
	askPlay(t, "alike", c, p, 3, want, ran())
	for _, nodes := range valuesToRead() {
		p := impl.Proc{Pid: 5, M: m, Box: append([]string{nodeBytes(nodes...)}, mail(3)...)}
		want := impl.Proc{Pid: 5, M: answeredByRules(c, m, poolOf(nodes...), len(nodes)-1), Box: mail(3)}
		askPlay(t, "a value", c, p, 3, want, ran())
	}
}

func TestSpawn(t *testing.T) {
	// Its code has four places.
	for n := range 50 {
		c, m := askingFor(17, funNode(n, 1))
		for _, m := range []impl.Machine{m, withNodes(m, 2500), filled(m, 0)} {
			p := impl.Proc{Pid: 5, M: m, Box: mail(2), Out: printed(mostOut)}
			if n == 0 || n == 8 || n == 16 || n == 24 {
				askPlay(t, "a function of none", c, p, 0, p, impl.Act{Kind: 4, Text: "\x03\x04\x05first\x05\x00\x00\x06" + numBytes(n) + "\x01"})
			} else {
				askPlayFails(t, "a function of some, or at no place", c, p, 3, impl.FlType)
			}
		}
	}
	for _, n := range []int{32, 40, 800, 8 * 400, 999999992, impl.MaxInt} {
		c, m := askingFor(17, funNode(n, 2))
		askPlayFails(t, "at no place", c, impl.Proc{Pid: 5, M: m, Box: mail(1)}, 3, impl.FlType)
	}
	for _, n := range []impl.Node{nilNode(), boolNode(0), intNode(8), symNode("x"), pairNode(0, 1), kontNode(1), primNode(8), primNode(14), pidNode(8)} {
		c, m := askingFor(17, n)
		askPlayFails(t, "no function", c, impl.Proc{Pid: 5, M: m, Box: mail(1)}, 3, impl.FlType)
		askPlayFails(t, "no function, no room", c, impl.Proc{Pid: 5, M: filled(m, 0), Box: mail(1)}, 3, impl.FlType)
	}
	// As it is, it asks still: and is told so again.
	c, m := askingFor(17, funNode(8, 2))
	p := impl.Proc{Pid: 5, M: m}
	for range 3 {
		next, act := impl.ProcStep(c, p, 3)
		if act != (impl.Act{Kind: 4, Text: "\x02\x01\x06\x08\x00"}) || !sameProc(p, next) {
			t.Error("again", act, toldProc(next))
		}
		p = next
	}
	// What is sent off begins as MachineOf begins it.
	_, act := impl.ProcStep(c, p, 3)
	q, v, _ := impl.ValueRead(act.Text)
	if begun, ok := impl.MachineOf(c, q, v); !ok || begun.At != 1 {
		t.Error("it does not begin", ok, toldMachine(begun, 0))
	}
}

func TestGo(t *testing.T) {
	far := []int{math.MinInt, -lastPid, -3, -2, -1, 0, 1, 2, 3, 4, 5, 17, lastPid - 1, lastPid, lastPid + 1, math.MaxInt}
	for _, place := range []int{-lastPid, -2, -1, 0, 1, 2, 3, 4, 16, 17, lastPid - 2, lastPid - 1, lastPid} {
		c, m := askingFor(19, intNode(place))
		for _, places := range append(far, place, place+1) {
			p := impl.Proc{Pid: 5, M: m, Box: mail(2), Out: printed(mostOut)}
			if place < 0 || place >= places {
				askPlayFails(t, "no place", c, p, places, impl.FlType)
				p.M = filled(m, 0)
				askPlayFails(t, "no place, no room", c, p, places, impl.FlType)
				continue
			}
			want := cloneProc(p)
			want.M = answeredWith(m, nilNode())
			askPlay(t, "a place", c, p, places, want, impl.Act{Kind: 5, To: place})
		}
	}
	for _, n := range []impl.Node{nilNode(), boolNode(0), boolNode(1), symNode("x"), pairNode(0, 1), funNode(0, 2), kontNode(1), primNode(1), pidNode(0), pidNode(1)} {
		c, m := askingFor(19, n)
		for _, places := range far {
			askPlayFails(t, "no number", c, impl.Proc{Pid: 5, M: m, Box: mail(1)}, places, impl.FlType)
		}
	}
}

// Where there is no room for the answer the machine fails; what else was to be done is done, and its act is told.
func TestAnswersThatFindNoRoom(t *testing.T) {
	for _, x := range answerable() {
		for room := range 7 {
			p := x.p
			p.M = filled(x.p.M, room)
			want, act := playedByRules(x.code, p, 3)
			if (want.M.State == impl.MsFail) != (room < x.makes) || act != x.act {
				t.Fatalf("%s with room for %d: %+v, %s", x.why, room, act, toldProc(want))
			}
			askPlay(t, fmt.Sprint(x.why, ", with room for ", room), x.code, p, 3, want, act)
		}
		p := x.p
		p.M = filled(x.p.M, 1)
		got, act := impl.ProcStep(x.code, p, 3)
		if !sameMachine(got.M, failed(p.M, impl.FlFull)) || act != x.act {
			t.Errorf("%s with no room: %+v, %s", x.why, act, toldProc(got))
		}
		out, box := printed(2), mail(3)
		switch x.why {
		case "print":
			out = append(out, "word")
		case "recv":
			box = box[1:]
		}
		if !slices.Equal(got.Out, out) || !slices.Equal(got.Box, box) || got.Pid != 5 {
			t.Errorf("%s with no room: %s", x.why, toldProc(got))
		}
	}
	// The greatest value finds room nowhere, and is taken all the same.
	c, m := askingFor(16)
	whole := nodeBytes(chain(impl.MaxNodes).Nodes...)
	p := impl.Proc{Pid: 5, M: m, Box: append([]string{whole}, mail(2)...)}
	askPlay(t, "the greatest value", c, p, 3, impl.Proc{Pid: 5, M: failed(m, impl.FlFull), Box: mail(2)}, ran())
}

func TestProcPackBytes(t *testing.T) {
	c, machines := machinesToAsk()
	nodes := "\x04\x01\x05\x00\x00\x08\x0d\x05\x02\x00"
	for i, machine := range []string{
		"\x11\x00\x00\x00\x03\x01\x00\x00" + nodes,
		"\x11\x02\x01\x0d\x03\x01\x00\x01" + nodes,
		"\x11\x00\x02\x00\x03\x01\x00\x02" + nodes,
		"\x11\x00\x03\x04\x03\x01\x00\x00" + nodes,
	} {
		for _, x := range []struct {
			p impl.Proc
			s string
		}{
			{impl.Proc{Pid: 1}, "\x01" + machine + "\x00\x00"},
			{impl.Proc{Pid: lastPid}, "\x80\x94\xeb\xdc\x03" + machine + "\x00\x00"},
			{impl.Proc{Pid: 300, Box: []string{"\x01\x01"}}, "\xac\x02" + machine + "\x01\x02\x01\x01\x00"},
			{impl.Proc{Pid: 4, Out: words("#pid4", "")}, "\x04" + machine + "\x00\x02\x05#pid4\x00"},
			{impl.Proc{Pid: 4, Box: []string{"\x01\x02\x00", "\x01\x09\x07"}, Out: words("ab")}, "\x04" + machine + "\x02\x03\x01\x02\x00\x03\x01\x09\x07\x01\x02ab"},
		} {
			x.p.M = machines[i]
			askProcPack(t, "by hand", c, x.p, x.s)
			askProcUnpack(t, "by hand", c, x.s, x.p)
		}
	}
}

// What is read is what was written, but tidied; and it is written again as the same bytes.
func TestProcsAreReadAsTidied(t *testing.T) {
	c, _ := machinesToAsk()
	for why, p := range rightProcs() {
		s := procBytes(p)
		askProcPack(t, why, c, p, s)
		want := cloneProc(p)
		want.M = tidiedByRules(p.M)
		askProcUnpack(t, why, c, s, want)
		askProcPack(t, why+", again", c, want, s)
		tidied := p
		tidied.M = impl.Tidy(p.M)
		askProcPack(t, why+", tidied", c, tidied, s)
	}
	// The greatest machine and the greatest values that there are.
	whole := impl.Machine{Pool: chain(impl.MaxNodes), S: 2999, E: 2, D: 1}
	great := impl.Proc{Pid: lastPid, M: whole, Box: slices.Repeat([]string{nodeBytes(chain(impl.MaxNodes).Nodes...)}, mostBox), Out: slices.Repeat([]string{strings.Repeat("x", 400)}, mostOut)}
	askProcPack(t, "the greatest", c, great, procBytes(great))
	askProcUnpack(t, "the greatest", c, procBytes(great), great)
}

func TestProcPackOfWhatIsNotRight(t *testing.T) {
	c, machines := machinesToAsk()
	for why, p := range brokenProcs() {
		askNoProcPack(t, why, c, p)
		// Its bytes, where there are such, are of no process.
		if p.Pid >= 0 && rightByRules(c, p.M) {
			askNoProcUnpack(t, why, c, procBytes(p))
		}
	}
	eachNotRight(func(why string, c impl.Code, m impl.Machine) {
		askNoProcPack(t, why, c, impl.Proc{Pid: 1, M: m, Box: mail(1), Out: printed(1)})
	})
	for why, b := range brokenCodes() {
		for _, m := range machines {
			askNoProcPack(t, why, b, impl.Proc{Pid: 1, M: m})
			askNoProcUnpack(t, why, b, procBytes(impl.Proc{Pid: 1, M: m}))
		}
	}
	askNoProcPack(t, "zero", c, impl.Proc{})
	askNoProcPack(t, "zero", impl.Code{}, impl.Proc{})
}

// procsToRead: tidied ones in each state, with and without things in the box and printed, for one code.
func procsToRead() (impl.Code, []impl.Proc) {
	c, machines := machinesToRead()
	var list []impl.Proc
	for i, m := range machines {
		m = impl.Tidy(m)
		list = append(list, impl.Proc{Pid: 1 + 200*i, M: m, Box: mail(i % 3), Out: printed(i % 4)})
	}
	return c, append(list, impl.Proc{Pid: lastPid, M: impl.Machine{Pool: poolOf(nilNode())}, Box: []string{"\x01\x01"}, Out: words("", "a")})
}

func TestProcUnpackOfWhatIsCutShort(t *testing.T) {
	c, procs := procsToRead()
	askNoProcUnpack(t, "the empty text", c, "")
	for n := range 20 {
		askNoProcUnpack(t, "noughts", c, strings.Repeat("\x00", n))
		askNoProcUnpack(t, "ones", c, strings.Repeat("\x01", n))
	}
	for _, p := range procs {
		s := procBytes(p)
		askProcUnpack(t, "whole", c, s, p)
		for at := range len(s) {
			askNoProcUnpack(t, "cut short", c, s[:at])
		}
		for b := range 256 {
			askNoProcUnpack(t, "a byte behind the end", c, s+string([]byte{byte(b)}))
		}
		askNoProcUnpack(t, "twice", c, s+s)
		askNoProcUnpack(t, "much behind", c, s+strings.Repeat("\x00", 5000))
	}
}

func TestProcUnpackOfLongerNumbers(t *testing.T) {
	c, procs := procsToRead()
	asked := 0
	for _, p := range procs {
		machine := machinePieces(p.M)
		pieces := procPieces(p.Pid, joined(machine), p.Box, p.Out)
		askProcUnpack(t, "as it is", c, joined(pieces), p)
		for i, x := range pieces {
			if !x.isNum {
				continue
			}
			for _, longer := range longerForms(x.bytes) {
				askNoProcUnpack(t, "longer", c, joined(pieces[:i])+longer+joined(pieces[i+1:]))
				asked++
			}
		}
		// Within the machine, whose length is told as it is then.
		for i, x := range machine {
			if !x.isNum {
				continue
			}
			for _, longer := range longerForms(x.bytes) {
				turned := joined(machine[:i]) + longer + joined(machine[i+1:])
				askNoProcUnpack(t, "longer in the machine", c, joined(procPieces(p.Pid, turned, p.Box, p.Out)))
				asked++
			}
		}
	}
	// Within a value in the box.
	for _, nodes := range valuesToRead() {
		pieces := nodePieces(nodes...)
		for i, x := range pieces {
			if x.isNum {
				turned := joined(pieces[:i]) + longerForms(x.bytes)[0] + joined(pieces[i+1:])
				askNoProcUnpack(t, "longer in a value", c, joined(procPieces(1, machineBytes(procs[0].M), []string{turned}, nil)))
			}
		}
	}
	if asked < 600 {
		t.Error("so few were asked", asked)
	}
}

func TestProcUnpackOfCounts(t *testing.T) {
	c, procs := procsToRead()
	m := procs[0].M
	machine := machineBytes(m)
	for count := range 60 {
		s := joined(procPieces(9, machine, mail(count), nil))
		if count <= mostBox {
			askProcUnpack(t, "a box", c, s, impl.Proc{Pid: 9, M: m, Box: mail(count)})
		} else {
			askNoProcUnpack(t, "too much in the box", c, s)
		}
		s = joined(procPieces(9, machine, nil, printed(count)))
		if count <= mostOut {
			askProcUnpack(t, "printed", c, s, impl.Proc{Pid: 9, M: m, Out: printed(count)})
		} else {
			askNoProcUnpack(t, "too much printed", c, s)
		}
	}
	begin := joined(append(numPieces(9, len(machine)), piece{machine, false}))
	for _, count := range []int{1, 2, mostBox, mostBox + 1, mostOut, mostOut + 1, 127, 128, 1 << 31, 1 << 32, math.MaxInt} {
		askNoProcUnpack(t, "a box that is not there", c, begin+numBytes(count))
		askNoProcUnpack(t, "a box that is not there", c, begin+numBytes(count)+"\x00")
		askNoProcUnpack(t, "printed that is not there", c, begin+"\x00"+numBytes(count))
		askNoProcUnpack(t, "the machine is cut short", c, numBytes(9, count)+machine[:1])
		askNoProcUnpack(t, "a text that is cut short", c, begin+"\x00\x01"+numBytes(count))
		askNoProcUnpack(t, "a value that is cut short", c, begin+"\x01"+numBytes(count))
	}
	for _, length := range []int{0, 1, 399, 400, 401, 402, 5000} {
		text := strings.Repeat("x", length)
		s := joined(procPieces(9, machine, nil, words("a", text)))
		if length <= 400 {
			askProcUnpack(t, "one printed", c, s, impl.Proc{Pid: 9, M: m, Out: words("a", text)})
		} else {
			askNoProcUnpack(t, "one printed is too long", c, s)
		}
	}
	for _, pid := range []int{0, lastPid + 1, 1 << 32, math.MaxInt} {
		askNoProcUnpack(t, "no pid", c, joined(procPieces(pid, machine, nil, nil)))
	}
}

// A machine that there is not, one that is not tidied, one of another code, and values that there are not.
func TestProcUnpackOfPartsThatAreNone(t *testing.T) {
	c, procs := procsToRead()
	machine := machineBytes(procs[0].M)
	for _, other := range []string{"", "\x00", machine[1:], machine[:len(machine)-1], machine + "\x00", machine + machine, "\x01\x01", "(a)"} {
		askNoProcUnpack(t, "no machine", c, joined(procPieces(9, other, mail(1), printed(1))))
	}
	_, clutter := rightClutter()
	for _, m := range clutter {
		askNoProcUnpack(t, "not tidied", c, joined(procPieces(9, machineBytes(m), mail(1), printed(1))))
	}
	eachNotRight(func(why string, c impl.Code, m impl.Machine) {
		if min(m.At, m.State, m.Ask, m.S, m.E, m.D, m.Arg) >= 0 {
			askNoProcUnpack(t, why, c, joined(procPieces(9, machineBytes(m), nil, nil)))
		}
	})
	short := codeFrom(impl.Pool{}, "jump 1, back")
	at := impl.Machine{Pool: poolOf(nilNode()), At: 2}
	askProcUnpack(t, "of this code", c, joined(procPieces(9, machineBytes(at), nil, nil)), impl.Proc{Pid: 9, M: at})
	askNoProcUnpack(t, "of another code", short, joined(procPieces(9, machineBytes(at), nil, nil)))
	for why, text := range noValues() {
		for place := range 3 {
			box := mail(3)
			box[place] = text
			askNoProcUnpack(t, why, c, joined(procPieces(9, machine, box, printed(1))))
		}
		// What is printed may be any text.
		if len(text) <= 400 {
			askProcUnpack(t, why, c, joined(procPieces(9, machine, mail(1), words("a", text))), impl.Proc{Pid: 9, M: procs[0].M, Box: mail(1), Out: words("a", text)})
		}
	}
}

func askProcUnpackByRules(t *testing.T, c impl.Code, s string) bool {
	t.Helper()
	want, right := procUnpackedByRules(c, s)
	p, ok := impl.ProcRead(c, s)
	if ok != right || !sameProc(p, want) {
		t.Fatalf("ProcRead of %.300q\ntells %v, %s\nnot %v, %s", s, ok, toldProc(p), right, toldProc(want))
	}
	if again, fine := impl.ProcPack(c, p); ok && (again != s || !fine) {
		t.Fatalf("%.300q is read as %s\nand written again as %q", s, toldProc(p), again)
	}
	return ok
}

func TestProcUnpackOfOneByteTurned(t *testing.T) {
	t.Parallel()
	c, procs := procsToRead()
	read, refused := 0, 0
	for _, p := range procs {
		turned(procBytes(p), func(s string) {
			if askProcUnpackByRules(t, c, s) {
				read++
			} else {
				refused++
			}
		})
	}
	if read < 5000 || refused < 20000 {
		t.Errorf("%d were read, %d refused", read, refused)
	}
}

func TestPost(t *testing.T) {
	t.Parallel()
	c, _ := machinesToAsk()
	for why, p := range rightProcs() {
		for _, nodes := range valuesToRead()[:16] {
			text := nodeBytes(nodes...)
			if len(p.Box) < mostBox {
				askPost(t, why, c, p, text, posted(p, text), true)
			} else {
				askPost(t, why, c, p, text, p, false)
			}
		}
		for whyText, text := range noValues() {
			askPost(t, why+", "+whyText, c, p, text, p, false)
		}
		// One after the other: behind all, until there is no room.
		for count := len(p.Box); count < mostBox; count++ {
			next, ok := impl.ProcPost(c, p, mail(count + 1)[count])
			if want := posted(p, mail(count + 1)[count]); !ok || !sameProc(next, want) {
				t.Fatalf("%s, with %d in the box: %s", why, count, toldProc(next))
			}
			p = next
		}
		askPost(t, why+", full", c, p, "\x01\x01", p, false)
	}
}

func TestPostToWhatIsNotRight(t *testing.T) {
	c, _ := machinesToAsk()
	for _, text := range []string{"\x01\x01", "", "\x00", "(a)"} {
		for why, p := range brokenProcs() {
			askPost(t, why, c, p, text, impl.Proc{}, false)
		}
		askPost(t, "zero", c, impl.Proc{}, text, impl.Proc{}, false)
		askPost(t, "zero", impl.Code{}, impl.Proc{}, text, impl.Proc{}, false)
	}
	eachNotRight(func(why string, c impl.Code, m impl.Machine) {
		askPost(t, why, c, impl.Proc{Pid: 1, M: m}, "\x01\x01", impl.Proc{}, false)
	})
}

// What is posted comes out as it went in, in its order.
func TestPostedIsReceived(t *testing.T) {
	c := programOf(t, "(define (main) (do (print (recv)) (main)))")
	p, _ := impl.ProcNew(c, "main", 3)
	var want []string
	for i, text := range []string{"(a (b c))", "5", "-1000000000", "#t", "()", "abcdefghijkl", "(quote (fn (x) (x x)))"} {
		q, list, _, _ := impl.Read(mixedPool(), text)
		packed, _ := impl.ValuePack(q, list[0])
		next, ok := impl.ProcPost(c, p, packed)
		if !ok || len(next.Box) != i+1 {
			t.Fatal("it is not posted", text)
		}
		p, want = next, append(want, text)
	}
	for range 200 {
		p, _ = impl.ProcStep(c, p, 1)
	}
	if !slices.Equal(p.Out, want) || len(p.Box) != 0 || p.M.State != impl.MsAsk {
		t.Errorf("%q is printed, and not %q", p.Out, want)
	}
}

// talkers: programs that ask for all that there is, and some that fail when they do.
func talkers() []program {
	return []program{
		{text: "(do (print (self)) (send (recv) 7) (go 1) (spawn (fn () 1)))"},
		{text: "(define (loop n) (if (= n 0) (quote over) (do (print (cons n (recv))) (send (self) n) (loop (- n 1))))) (loop 5)"},
		{text: "(let k (callcc (fn (k) k)) (do (print (recv)) (k k)))"},
		{text: "(do (print 0) (spawn (fn () (print 1))) (print (spawn (fn () (recv)))) (go 2) (go 0) (print (go 1)))"},
		{text: "(let who (recv) (do (send who (fn (x) (cons who x))) (print (cons (recv) who)) (print who)))"},
		{text: "(let x 5 (let f (fn () (print x)) (do (f) (spawn f) (go 1) (f) (send (self) f) (f))))"},
		{text: "(do (print (quote a)) (send (self) (callcc (fn (k) k))) (print (recv)))"},
		{text: "(define (rev l m) (if (null? l) m (rev (cdr l) (cons (car l) m)))) (do (print (rev (quote (1 2 3)) ())) (send (recv) (rev (quote (a b c d)) (recv))) (print (recv)))"},
		{text: "(define (f n) (if (= n 0) (recv) (cons (f (- n 1)) (print n)))) (print (f 6))"},
		{text: "(do (print 1) (send 5 1) (print 2))"},
		{text: "(do (print 1) (go 3) (print 2))"},
		{text: "(do (print 1) (go (quote x)) (print 2))"},
		{text: "(do (print 1) (spawn 1) (print 2))"},
		{text: "(do (print 1) (spawn (fn (x) x)) (print 2))"},
		{text: endlessPrinting},
		{text: endlessGoing},
	}
}

// A course is a process on its way, among others who post, and who answer what is spawned.
type course struct {
	c     impl.Code
	p     impl.Proc
	count int
	waits int
}

// step is one step, and what others do then: that hangs on the act and on how many steps there were, on nothing else.
func (s *course) step() impl.Act {
	p, act := impl.ProcStep(s.c, s.p, 3)
	s.count++
	switch {
	case act.Kind == impl.AcSpawn:
		p.M = impl.Answer(s.c, p.M, poolOf(pidNode(40+s.count)), 0)
	case act.Kind == impl.AcWait:
		s.waits++
		p = s.posted(p)
	case s.count%40 == 14:
		p = s.posted(p)
	}
	s.p = p
	return act
}

func (s *course) posted(p impl.Proc) impl.Proc {
	values := [][]impl.Node{{pidNode(9)}, {intNode(s.count)}, {nilNode(), symNode("word"), pairNode(1, 0)}, {nilNode(), pairNode(0, 0), pairNode(1, 1)}}
	p, _ = impl.ProcPost(s.c, p, nodeBytes(values[s.count%4]...))
	return p
}

func (s *course) isOver(act impl.Act) bool { return act.Kind == impl.AcEnd || s.waits > 6 }

// reread: the same process, from its bytes.
func (s *course) reread(t *testing.T) {
	t.Helper()
	b, ok := impl.ProcPack(s.c, s.p)
	p, fine := impl.ProcRead(s.c, b)
	if !ok || !fine {
		t.Fatalf("not written, or not read: %s", toldProc(s.p))
	}
	s.p = p
}

// A stop is what is seen behind a step.
type stop struct {
	act   impl.Act
	out   []string
	box   []string
	bytes string
}

func (s *course) stopBehind(act impl.Act) stop {
	b, _ := impl.ProcPack(s.c, s.p)
	return stop{act, slices.Clone(s.p.Out), slices.Clone(s.p.Box), b}
}

func (a stop) equal(b stop) bool {
	return a.act == b.act && a.bytes == b.bytes && slices.Equal(a.out, b.out) && slices.Equal(a.box, b.box)
}

// courses: the process as it begins; and one that has been about, with things in its box and printed, and nodes that it needs no more.
func courses(t *testing.T, c impl.Code) map[string]impl.Proc {
	t.Helper()
	p, ok := impl.ProcNew(c, "main", 4)
	if !ok {
		t.Fatal("it does not begin")
	}
	about := impl.Proc{Pid: lastPid, M: withNodes(p.M, 1960), Box: mail(2), Out: printed(7)}
	return map[string]impl.Proc{"new": p, "been about": about}
}

// straight: the course that is never written nor read, and where it was at each step; what was printed stays, with at most one more.
func straight(t *testing.T, why string, begun course, most int) ([]course, []stop) {
	t.Helper()
	s := begun
	var all []course
	var stops []stop
	for len(stops) < most {
		all = append(all, s)
		before := s.p
		act := s.step()
		out := s.p.Out
		if len(out) < len(before.Out) || len(out) > len(before.Out)+1 || !slices.Equal(out[:len(before.Out)], before.Out) || s.p.Pid != before.Pid {
			t.Fatalf("%s: what was printed does not stay: %q, and then %q", why, before.Out, out)
		}
		if !impl.ProcOk(s.c, s.p) {
			t.Fatalf("%s: a step leaves what is not right: %s", why, toldProc(s.p))
		}
		stops = append(stops, s.stopBehind(act))
		if s.isOver(act) {
			break
		}
	}
	return all, stops
}

// askSameCourse: from there on, and reread behind each so many steps (none of 0), it takes the same steps; for at most so many.
func askSameCourse(t *testing.T, why string, s course, stops []stop, often int, most int) {
	t.Helper()
	s.reread(t)
	for i, want := range stops[:min(len(stops), most)] {
		act := s.step()
		if got := s.stopBehind(act); !got.equal(want) {
			t.Fatalf("%s: step %d tells %.300q\nand not %.300q", why, i, fmt.Sprintf("%+v", got), fmt.Sprintf("%+v", want))
		}
		if often > 0 && i%often == 0 {
			s.reread(t)
		}
	}
}

// Promise 12.
func TestProcsGoOnFromTheirBytes(t *testing.T) {
	t.Parallel()
	kinds, ends := map[int]int{}, map[int]int{}
	for _, x := range slices.Concat(talkers(), allPrograms()) {
		c := programOf(t, x.text)
		for why, p := range courses(t, c) {
			why = x.text + ", " + why
			all, stops := straight(t, why, course{c: c, p: p}, 250)
			for _, stop := range stops {
				kinds[stop.act.Kind]++
			}
			last := all[len(all)-1].p.M
			ends[last.State]++
			// At any of its steps: of short ones at each, of long ones at some.
			for at := 0; at < len(all); at += 1 + len(all)/40 {
				askSameCourse(t, fmt.Sprint(why, ", read at step ", at), all[at], stops[at:], 0, 25)
			}
			for _, often := range []int{1, 2, 7} {
				askSameCourse(t, fmt.Sprint(why, ", read each ", often), all[0], stops, often, 250)
			}
		}
	}
	for kind := impl.AcRan; kind <= impl.AcGo; kind++ {
		if kinds[kind] < 8 {
			t.Error("so often was an act told", kinds)
		}
	}
	if ends[impl.MsDone] < 20 || ends[impl.MsFail] < 10 {
		t.Error("they came to so many ends", ends)
	}
}

// From each step to the very end, of a few.
func TestProcsGoOnToTheirEnd(t *testing.T) {
	t.Parallel()
	for _, x := range talkers()[:9] {
		c := programOf(t, x.text)
		for why, p := range courses(t, c) {
			all, stops := straight(t, x.text, course{c: c, p: p}, 90)
			for at := range all {
				askSameCourse(t, fmt.Sprint(x.text, ", ", why, ", read at step ", at), all[at], stops[at:], 0, 90)
			}
		}
	}
}

// chat: an expression that prints, goes about, and talks to others.
func (r *aRandom) chat(deep int) string {
	if deep == 0 || r.below(3) == 0 {
		return r.talk(deep)
	}
	e := func() string { return r.chat(deep - 1) }
	switch r.below(9) {
	case 0:
		return "(send (self) " + e() + ")"
	case 1:
		return "(send " + e() + " " + e() + ")"
	case 2, 3:
		return "(recv)"
	case 4:
		return "(spawn (fn () " + e() + "))"
	case 5:
		return "(go " + []string{"0", "1", "2", "2"}[r.below(4)] + ")"
	case 6:
		return "(let x " + e() + " " + e() + ")"
	case 7:
		return "(cons " + e() + " " + e() + ")"
	}
	return "(do " + e() + " " + e() + " " + e() + ")"
}

func TestAnyProcsGoOnFromTheirBytes(t *testing.T) {
	t.Parallel()
	r := &aRandom{x: 1201}
	kinds, ends, said := map[int]int{}, map[int]int{}, 0
	for range 500 {
		text := "(define (f x) " + r.chat(2) + ") (define (main) (let x 5 " + r.chat(4) + "))"
		p, list, how, _ := impl.Read(impl.Pool{}, text)
		c, made, _ := impl.Compile(p, list)
		if how != impl.RdDone || made != impl.CpDone {
			continue
		}
		for why, p := range courses(t, c) {
			why = text + ", " + why
			all, stops := straight(t, why, course{c: c, p: p}, 200)
			for range 3 {
				at := r.below(len(all))
				askSameCourse(t, fmt.Sprint(why, ", read at step ", at), all[at], stops[at:], 0, 40)
			}
			askSameCourse(t, why+", read often", all[0], stops, 1+r.below(9), 200)
			for _, stop := range stops {
				kinds[stop.act.Kind]++
			}
			ends[all[len(all)-1].p.M.State]++
			said += len(all[len(all)-1].p.Out)
		}
	}
	for kind := impl.AcRan; kind <= impl.AcGo; kind++ {
		if kinds[kind] < 100 {
			t.Error("so often was an act told", kinds)
		}
	}
	if ends[impl.MsDone] < 100 || ends[impl.MsFail] < 100 || said < 2000 {
		t.Error("they came to so many ends, and told so much", ends, said)
	}
}

// someProc: a process of a machine that runs, asks, is done or failed, with this and that, near its limits or not.
func (r *aRandom) someProc(c impl.Code) impl.Proc {
	m := r.someMachine(c)
	switch r.below(7) {
	case 0:
		m = impl.Step(c, m)
	case 1, 2, 3, 4:
		m = r.someAsking(m)
	case 5:
		m = impl.Machine{Pool: m.Pool, S: m.S, E: m.E, D: m.D, State: impl.MsDone, Arg: r.below(len(m.Pool.Nodes))}
	}
	switch r.below(6) {
	case 0:
		m = filled(m, r.below(6))
	case 1:
		m = withNodes(m, 1980+r.below(30))
	}
	counts := []int{0, 0, 1, 2, 5, 19, 20}
	p := impl.Proc{Pid: []int{1, 2, 300, lastPid}[r.below(4)], M: m, Box: mail(counts[r.below(7)]), Out: printed([]int{0, 1, 3, 38, 39, 40, 40}[r.below(7)])}
	if len(p.Box) > 0 {
		q := r.pool(1 + r.below(5))
		p.Box[0] = packedByRules(q, len(q.Nodes)-1)
	}
	return p
}

// someAsking: the machine asks for something, mostly with as many values as that takes.
func (r *aRandom) someAsking(m impl.Machine) impl.Machine {
	b := &bench{nodes: m.Pool.Nodes}
	m.State, m.Ask = impl.MsAsk, asks()[r.below(6)]
	count := builtIn()[m.Ask-1].takes
	if r.below(6) == 0 {
		count = r.below(4)
	}
	var values []int
	for range count {
		some := valuesToAskWith()
		if r.below(2) == 0 {
			some = []impl.Node{intNode(0), intNode(1), intNode(2), pidNode(4), pidNode(0), funNode(0, 0), funNode(8, 0)}
		}
		values = append(values, b.add(some[r.below(len(some))]))
	}
	m.Arg = b.list(values...)
	if r.below(10) == 0 {
		m.Arg = r.below(len(b.nodes))
	}
	m.Pool.Nodes = b.nodes
	return m
}

// breakProc turns one thing of a process, so that it may be right no more.
func (r *aRandom) breakProc(p *impl.Proc) {
	switch r.below(6) {
	case 0:
		p.Pid = []int{0, -1, lastPid + 1, math.MinInt, math.MaxInt}[r.below(5)]
	case 1:
		p.Box = append(slices.Clone(p.Box), "")
	case 2:
		p.Box = mail(21)
	case 3:
		p.Out = printed(41)
	case 4:
		p.Out = append([]string{}, strings.Repeat("a", 399+r.below(4)))
	case 5:
		fields := []*int{&p.M.At, &p.M.S, &p.M.E, &p.M.D, &p.M.State, &p.M.Ask, &p.M.Arg}
		*fields[r.below(7)] = []int{-1, 0, 1, 2, 13, 18, 5000}[r.below(7)]
	}
}

func TestAnyProcsByRules(t *testing.T) {
	t.Parallel()
	r := &aRandom{x: 1203}
	kinds, fails, right := map[int]int{}, map[int]int{}, 0
	for range 6000 {
		c := r.someCode()
		p := r.someProc(c)
		if r.below(8) == 0 {
			r.breakProc(&p)
		}
		isRight := procByRules(c, p)
		askProcOk(t, "any", c, p, isRight)
		places := r.below(6) - 1
		want, act := playedByRules(c, p, places)
		askPlay(t, "any", c, p, places, want, act)
		if isRight {
			s := procBytes(p)
			askProcPack(t, "any", c, p, s)
			askProcUnpackByRules(t, c, s)
			right++
			kinds[act.Kind]++
			if p.M.State == impl.MsAsk && want.M.State == impl.MsFail {
				fails[want.M.Ask]++
			}
		} else {
			askNoProcPack(t, "any", c, p)
		}
		text := []string{"\x01\x01", "\x01\x02\x01", "", "\x01"}[r.below(4)]
		next := posted(p, text)
		switch {
		case !isRight:
			askPost(t, "any", c, p, text, impl.Proc{}, false)
		case procByRules(c, next):
			askPost(t, "any", c, p, text, next, true)
		default:
			askPost(t, "any", c, p, text, p, false)
		}
		if t.Failed() {
			return
		}
	}
	for kind := impl.AcRan; kind <= impl.AcGo; kind++ {
		if kinds[kind] < 50 {
			t.Error("so often was an act told", kinds)
		}
	}
	if fails[impl.FlType] < 100 || fails[impl.FlFull] < 100 || fails[impl.FlState] < 100 || len(fails) != 3 || right < 5000 || right > 5900 {
		t.Error("so many were right, and failed so", right, fails)
	}
}

// A procAnswer is all that a function may tell of a process.
type procAnswer struct {
	p    impl.Proc
	act  impl.Act
	text string
	ok   bool
}

func (a procAnswer) equal(b procAnswer) bool {
	return sameProc(a.p, b.p) && a.act == b.act && a.text == b.text && a.ok == b.ok
}

func (a procAnswer) cloned() procAnswer {
	a.p = cloneProc(a.p)
	return a
}

// A givenProc is a code and a process with spare room behind all their lists; whole is the memory of these.
type givenProc struct {
	c     impl.Code
	p     impl.Proc
	whole impl.Proc
	code  impl.Code
}

func roomyProc(c impl.Code, p impl.Proc) givenProc {
	var g givenProc
	codePool, codeNodes := roomy(c.Pool)
	pool, nodes := roomy(p.M.Pool)
	g.code = impl.Code{Pool: poolOf(codeNodes...), List: append(slices.Clone(c.List), impl.Instr{Op: 3, S: "spare"}, impl.Instr{Op: 4}), Defs: append(slices.Clone(c.Defs), impl.Def{Name: "spare"}, impl.Def{Name: "rest"})}
	g.whole = p
	g.whole.M.Pool = poolOf(nodes...)
	g.whole.Box = append(slices.Clone(p.Box), "spare", "room", "behind")
	g.whole.Out = append(slices.Clone(p.Out), "spare", "room", "behind")
	g.c = impl.Code{Pool: codePool, List: g.code.List[:len(c.List)], Defs: g.code.Defs[:len(c.Defs)]}
	g.p = p
	g.p.M.Pool, g.p.Box, g.p.Out = pool, g.whole.Box[:len(p.Box)], g.whole.Out[:len(p.Out)]
	return g
}

func spoilProc(p impl.Proc) {
	spoilNodes(p.M.Pool)
	spoilTexts(p.Box)
	spoilTexts(p.Out)
}

func askProcMemory(t *testing.T, why string, c impl.Code, p impl.Proc, ask func(c impl.Code, p impl.Proc) procAnswer) {
	t.Helper()
	g := roomyProc(c, p)
	whole, code := cloneProc(g.whole), cloneCode(g.code)
	first := ask(g.c, g.p)
	kept := first.cloned()
	spoilProc(ask(g.c, g.p).p)
	if !sameProc(g.whole, whole) || !sameCode(g.code, code) {
		t.Errorf("%s: an argument was written into, or the answer shares its memory", why)
	}
	// Each list of an answer by itself: no other one turns with it.
	for i := range 3 {
		other := ask(g.c, g.p).p
		want := cloneProc(other)
		switch i {
		case 0:
			spoilNodes(other.M.Pool)
			other.M.Pool = want.M.Pool
		case 1:
			spoilTexts(other.Box)
			other.Box = want.Box
		case 2:
			spoilTexts(other.Out)
			other.Out = want.Out
		}
		if !sameProc(other, want) {
			t.Errorf("%s: two lists of the answer share memory", why)
		}
	}
	spoilProc(g.whole)
	spoilCode(g.code)
	if !first.equal(kept) {
		t.Errorf("%s: the answer shares memory with an argument, or with another one", why)
	}
	if third := ask(c, p); !third.equal(kept) {
		t.Errorf("%s: something is kept from call to call", why)
	}
}

func askAllProcMemory(t *testing.T, why string, c impl.Code, p impl.Proc) {
	t.Helper()
	askProcMemory(t, "ProcOk, "+why, c, p, func(c impl.Code, p impl.Proc) procAnswer { return procAnswer{ok: impl.ProcOk(c, p)} })
	for _, places := range []int{0, 3} {
		askProcMemory(t, "ProcStep, "+why, c, p, func(c impl.Code, p impl.Proc) procAnswer {
			next, act := impl.ProcStep(c, p, places)
			return procAnswer{p: next, act: act}
		})
	}
	askProcMemory(t, "ProcPack, "+why, c, p, func(c impl.Code, p impl.Proc) procAnswer {
		s, ok := impl.ProcPack(c, p)
		return procAnswer{text: s, ok: ok}
	})
	s, _ := impl.ProcPack(c, p)
	askProcMemory(t, "ProcRead, "+why, c, p, func(c impl.Code, _ impl.Proc) procAnswer {
		next, ok := impl.ProcRead(c, s)
		return procAnswer{p: next, ok: ok}
	})
	for _, text := range []string{"\x01\x01", ""} {
		askProcMemory(t, "ProcPost, "+why, c, p, func(c impl.Code, p impl.Proc) procAnswer {
			next, ok := impl.ProcPost(c, p, text)
			return procAnswer{p: next, ok: ok}
		})
	}
	for _, name := range []string{"main", ""} {
		askProcMemory(t, "ProcNew, "+why, c, p, func(c impl.Code, p impl.Proc) procAnswer {
			next, ok := impl.ProcNew(c, name, p.Pid)
			return procAnswer{p: next, ok: ok}
		})
	}
}

func TestNothingIsWrittenByProcs(t *testing.T) {
	c, _ := machinesToAsk()
	for why, p := range rightProcs() {
		askAllProcMemory(t, why, c, p)
	}
	for why, p := range brokenProcs() {
		askAllProcMemory(t, why, c, p)
	}
	for _, f := range stepsToAsk() {
		askAllProcMemory(t, f.why, f.code, impl.Proc{Pid: 5, M: f.m, Box: mail(2), Out: printed(2)})
	}
	for _, x := range answerable() {
		askAllProcMemory(t, x.why, x.code, x.p)
		full := x.p
		full.M = filled(full.M, 1)
		askAllProcMemory(t, x.why+", full", x.code, full)
	}
	for _, n := range asks() {
		for _, first := range valuesToAskWith() {
			for count := range 3 {
				c, m := askingFor(n, slices.Repeat([]impl.Node{first}, count)...)
				askAllProcMemory(t, nameOf(n), c, impl.Proc{Pid: 5, M: m, Box: mail(count), Out: printed(39 + count%2)})
			}
		}
	}
}
