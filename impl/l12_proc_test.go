package impl

import "testing"

// How often an act is told can't be seen from outside: so this is asked here.
func TestEachStepTellsOneAct(t *testing.T) {
	c := Code{List: []Instr{{Op: OpPop}, {Op: OpBack}}}
	nodes := []Node{{Kind: KNil}, {Kind: KPid, N: 9}, {Kind: KInt}, {Kind: KFun}, {Kind: KPair, A: 1}, {Kind: KPair, A: 2}, {Kind: KPair, A: 3}, {Kind: KPair, A: 1, B: 4}}
	machines := []Machine{{S: 4}, {State: MsDone}, {State: MsFail, Ask: FlType}}
	for ask := primPrint; ask <= primGo; ask++ {
		for arg := range nodes {
			machines = append(machines, Machine{State: MsAsk, Ask: ask, Arg: arg, At: 1})
		}
	}
	kinds := map[int]int{}
	for _, m := range machines {
		m.Pool = Pool{Nodes: nodes}
		for _, box := range [][]string{nil, {"\x01\x01"}} {
			p := Proc{Pid: 4, M: m, Box: box}
			if !ProcOk(c, p) {
				continue
			}
			var told []Act
			playerOf(c, p, 2).play(func(act Act) { told = append(told, act) })
			_, act := ProcStep(c, p, 2)
			if len(told) != 1 || told[0] != act {
				t.Errorf("a step of %+v tells %+v, and not %+v", p, told, act)
			}
			kinds[act.Kind]++
		}
	}
	for kind := AcRan; kind <= AcGo; kind++ {
		if kinds[kind] == 0 {
			t.Error("no step tells the act", kind)
		}
	}
}
