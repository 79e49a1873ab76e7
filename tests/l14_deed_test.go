package tests

import (
	"fmt"
	"math"
	"reflect"
	"runtime"
	"slices"
	"sync"
	"testing"
	"testing/synctest"
	"time"

	"loop.example/g00189/impl"
)

const (
	mostDeeds = 300
	mostMore  = 50
	aWord     = "\x01\x04\x04word"
)

// The codes of a deed.
const (
	isDone = 0
	isBad  = 1
	isNone = 2
	isWait = 3
	isEnd  = 4
	isFull = 5
)

func stepOf(pid int, more int) impl.Deed { return impl.Deed{Kind: 1, A: pid, B: more} }

func showOf(from int, to int) impl.Deed { return impl.Deed{Kind: 2, A: from, B: to} }

func giveOf(at int) impl.Deed { return impl.Deed{Kind: 3, A: at} }

func copyGram(at int) impl.Deed { return impl.Deed{Kind: 4, A: at} }

func loseOf(at int) impl.Deed { return impl.Deed{Kind: 5, A: at} }

// deedByRules: whether it is right, kind by kind.
func deedByRules(d impl.Deed) bool {
	switch d.Kind {
	case 1:
		return d.A >= 0 && d.B >= 0 && d.B <= 50
	case 2:
		return d.A >= 0 && d.B >= 0
	case 3, 4, 5:
		return d.A >= 0 && d.B == 0
	}
	return false
}

// A worldRuling does a deed as the chapter tells it, one sentence after the other. It may leave it half done where it tells another code than 0.
type worldRuling struct{ w impl.World }

func deedDoneByRules(w impl.World, d impl.Deed) (impl.World, int) {
	if !worldByRules(w) || !deedByRules(d) {
		return impl.World{}, isBad
	}
	r := &worldRuling{cloneWorld(w)}
	if code := r.deed(d); code != isDone {
		return w, code
	}
	return r.w, isDone
}

func (r *worldRuling) deed(d impl.Deed) int {
	switch d.Kind {
	case 1:
		return r.step(d.A, d.B)
	case 2:
		return r.show(d.A, d.B)
	}
	if d.A >= len(r.w.Grams) {
		return isNone
	}
	g := r.w.Grams[d.A]
	if d.Kind == 4 {
		if len(r.w.Grams) == 12 {
			return isFull
		}
		r.w.Grams = append(r.w.Grams, g)
		return isDone
	}
	r.w.Grams = slices.Concat(r.w.Grams[:d.A], r.w.Grams[d.A+1:])
	if d.Kind == 3 {
		r.give(g)
	}
	return isDone
}

func (r *worldRuling) step(pid int, more int) int {
	home := homeByRules(r.w, pid)
	if home < 0 {
		return isNone
	}
	p, act := r.w.Homes[home].P, ran()
	for count := 0; count < more+1 && act.Kind == 0; count++ {
		p, act = impl.ProcStep(r.w.Code, p, r.w.Places)
		if count == 0 && act.Kind == 1 {
			return isEnd
		}
		if count == 0 && act.Kind == 2 {
			return isWait
		}
	}
	r.w.Homes[home].P = p
	switch act.Kind {
	case 3:
		return r.sent(r.w.Homes[home].At, act.To, act.Text)
	case 4:
		return r.spawned(home, act.Text)
	case 5:
		return r.gone(home, act.To)
	}
	return isDone
}

func (r *worldRuling) sent(from int, pid int, text string) int {
	where, home := whereByRules(r.w, pid), homeByRules(r.w, pid)
	switch {
	case where == -1:
		return isDone
	case where == from && home != -1:
		r.post(home, text)
		return isDone
	case where == from:
		return r.park(from, pid, text)
	}
	return r.handedIn(from, where, wordBytes(pid, text))
}

func (r *worldRuling) post(home int, text string) {
	if p := posted(r.w.Homes[home].P, text); procByRules(r.w.Code, p) {
		r.w.Homes[home].P = p
	}
}

func (r *worldRuling) park(at int, pid int, text string) int {
	if len(r.w.Parked) == 20 {
		return isFull
	}
	r.w.Parked = append(r.w.Parked, impl.Parked{At: at, To: pid, Text: text})
	return isDone
}

func (r *worldRuling) handedIn(from int, to int, s string) int {
	number := from*r.w.Places + to
	l, ok := sentByRules(r.w.Links[number], s)
	if !ok {
		return isFull
	}
	r.w.Links[number], r.w.Gave[number] = l, append(r.w.Gave[number], s)
	return isDone
}

func (r *worldRuling) spawned(home int, text string) int {
	p, _ := unpackedByRules(text)
	count := len(p.Nodes)
	if len(r.w.Homes) == 8 || r.w.Next == 1000000000 || count+2 > 3000 {
		return isFull
	}
	f := p.Nodes[count-1]
	m := impl.Machine{Pool: poolOf(append(p.Nodes, nilNode(), pairNode(count, f.A))...), At: f.N / 8, S: count, E: count + 1, D: count}
	h := &r.w.Homes[home]
	h.P.M = answeredByRules(r.w.Code, h.P.M, poolOf(pidNode(r.w.Next)), 0)
	r.w.Homes = append(r.w.Homes, impl.Home{At: h.At, P: impl.Proc{Pid: r.w.Next, M: m}})
	r.w.Next++
	return isDone
}

func (r *worldRuling) gone(home int, to int) int {
	h := r.w.Homes[home]
	if h.At == to {
		return isDone
	}
	if code := r.handedIn(h.At, to, moveBytes(procBytes(h.P))); code != isDone {
		return code
	}
	r.w.Homes = slices.Concat(r.w.Homes[:home], r.w.Homes[home+1:])
	return isDone
}

func (r *worldRuling) show(from int, to int) int {
	if from >= r.w.Places || to >= r.w.Places || from == to {
		return isNone
	}
	shown := shownByRules(r.w.Links[from*r.w.Places+to])
	if len(shown) == 0 {
		return isWait
	}
	if len(r.w.Grams) == 12 {
		return isFull
	}
	for _, p := range shown {
		if len(r.w.Grams) < 12 {
			r.w.Grams = append(r.w.Grams, impl.Gram{Kind: 1, From: from, To: to, P: p})
		}
	}
	return isDone
}

func (r *worldRuling) give(g impl.Gram) {
	if g.Kind == 2 {
		number := g.To*r.w.Places + g.From
		r.w.Links[number], _ = ackedByRules(r.w.Links[number], g.P.No)
		return
	}
	number := g.From*r.w.Places + g.To
	l, up := takenByRules(r.w.Links[number], g.P)
	r.w.Links[number] = l
	for _, s := range up {
		r.w.Took[number] = append(r.w.Took[number], s)
		r.handedUp(g.To, s)
	}
	if len(r.w.Grams) < 12 {
		r.w.Grams = append(r.w.Grams, impl.Gram{Kind: 2, From: g.To, To: g.From, P: impl.Piece{No: l.Got}})
	}
}

func (r *worldRuling) handedUp(at int, s string) {
	m := mailByRules(s)
	if m.ok && m.kind == 2 {
		if p, ok := procUnpackedByRules(r.w.Code, m.text); ok {
			r.comes(at, p)
		}
	}
	if m.ok && m.kind == 1 {
		if _, ok := unpackedByRules(m.text); ok && r.sent(at, m.pid, m.text) == isFull {
			r.park(at, m.pid, m.text)
		}
	}
}

func (r *worldRuling) comes(at int, p impl.Proc) {
	if len(r.w.Homes) == 8 || homeByRules(r.w, p.Pid) != -1 {
		return
	}
	r.w.Homes = append(r.w.Homes, impl.Home{At: at, P: p})
	parked := r.w.Parked
	r.w.Parked = nil
	for _, x := range parked {
		if x.At == at && x.To == p.Pid {
			r.post(len(r.w.Homes)-1, x.Text)
		} else {
			r.w.Parked = append(r.w.Parked, x)
		}
	}
}

// askDeed asks what a deed comes to, by WorldDo and by a run of it alone; and that the rules tell so, too.
func askDeed(t *testing.T, why string, w impl.World, d impl.Deed, code int, want impl.World) {
	t.Helper()
	got, told := impl.WorldDo(w, d)
	if told != code || !sameWorld(got, want) {
		t.Errorf("%s: %+v tells %d, %s\nnot %d, %s\nof %s", why, d, told, toldWorld(got), code, toldWorld(want), toldWorld(w))
	}
	if ruled, by := deedDoneByRules(w, d); by != code || !sameWorld(ruled, want) {
		t.Errorf("%s: the rules tell of %+v %d, %s\nnot %d, %s", why, d, by, toldWorld(ruled), code, toldWorld(want))
	}
	askKeepsToThePromise(t, why, w, d, got, told)
	run, codes := impl.WorldRun(w, []impl.Deed{d})
	switch {
	case !impl.WorldOk(w):
		if !sameWorld(run, w) || len(codes) != 0 {
			t.Errorf("%s: a run of what is not right tells %v, %s", why, codes, toldWorld(run))
		}
	case !slices.Equal(codes, []int{code}) || code == isBad && !sameWorld(run, w) || code != isBad && !sameWorld(run, want):
		t.Errorf("%s: a run of %+v tells %v, %s", why, d, codes, toldWorld(run))
	}
}

// askKeepsToThePromise: what is refused turns nothing; what is done leaves a world that is right.
func askKeepsToThePromise(t *testing.T, why string, w impl.World, d impl.Deed, got impl.World, code int) {
	t.Helper()
	switch {
	case code == isDone && !impl.WorldOk(got):
		t.Errorf("%s: %+v leaves what is not right: %s", why, d, toldWorld(got))
	case code == isBad && !sameWorld(got, impl.World{}):
		t.Errorf("%s: %+v is bad, and tells %s", why, d, toldWorld(got))
	case code != isDone && code != isBad && !sameWorld(got, w):
		t.Errorf("%s: %+v is refused by %d, and turns %s\nto %s", why, d, code, toldWorld(w), toldWorld(got))
	case code < isDone || code > isFull:
		t.Errorf("%s: %+v tells the code %d", why, d, code)
	}
}

// askTurns: it is done, and the world is turned just so.
func askTurns(t *testing.T, why string, w impl.World, d impl.Deed, turn func(w *impl.World)) {
	t.Helper()
	want := cloneWorld(w)
	turn(&want)
	askDeed(t, why, w, d, isDone, want)
}

// askStays: it is refused, and the world is as it was.
func askStays(t *testing.T, why string, w impl.World, d impl.Deed, code int) {
	t.Helper()
	askDeed(t, why, w, d, code, w)
}

func askBadDeed(t *testing.T, why string, w impl.World, d impl.Deed) {
	t.Helper()
	askDeed(t, why, w, d, isBad, impl.World{})
}

// someMore: numbers of more steps, at the limits and between them.
func someMore() []int { return []int{0, 1, 2, 7, mostMore - 1, mostMore} }

// asker: a process of that pid that asks for n with the values of these nodes, for the code of a world of askers.
func asker(pid int, n int, nodes ...impl.Node) impl.Proc {
	_, m := askingFor(n, nodes...)
	return impl.Proc{Pid: pid, M: m, Box: mail(2), Out: printed(1)}
}

// answeredBy: the process whose machine has that node for an answer.
func answeredBy(p impl.Proc, n impl.Node) impl.Proc {
	p = cloneProc(p)
	p.M = answeredWith(p.M, n)
	return p
}

// askersWorld: a world with these homes; small processes (aProc) are right in it, too.
func askersWorld(places int, homes ...impl.Home) impl.World {
	w := bareWorld(places)
	w.Code, _ = askingFor(14)
	w.Homes, w.Next = homes, 9
	return w
}

func homeAt(at int, p impl.Proc) impl.Home { return impl.Home{At: at, P: p} }

// programWorld: a new world of that program.
func programWorld(t *testing.T, places int, texts ...string) impl.World {
	t.Helper()
	w, ok := impl.WorldNew(programOf(t, texts...), places)
	if !ok {
		t.Fatalf("there is no world of %q", texts)
	}
	return w
}

// fullWay: a link that takes no more, though there is room for numbers.
func fullWay(w *impl.World, number int) { setLink(w, number, aLink(30, 0, 0)) }

// lastWay: a link of which no more numbers are left.
func lastWay(w *impl.World, number int) { setLink(w, number, aLink(lastNo, lastNo, lastNo)) }

// addMail: the link has one more payload, and so has what was handed in.
func addMail(w *impl.World, number int, s string) {
	w.Links[number].Sent++
	w.Links[number].Queue = append(w.Links[number].Queue, s)
	w.Gave[number] = append(w.Gave[number], s)
}

func TestDeedNumbers(t *testing.T) {
	kinds := []int{impl.DoStep, impl.DoShow, impl.DoGive, impl.DoCopy, impl.DoLose}
	codes := []int{impl.WdDone, impl.WdBad, impl.WdNone, impl.WdWait, impl.WdEnd, impl.WdFull}
	if !slices.Equal(kinds, []int{1, 2, 3, 4, 5}) || !slices.Equal(codes, []int{0, 1, 2, 3, 4, 5}) || impl.MaxDeeds != mostDeeds || impl.MaxMore != mostMore {
		t.Error("numbers", kinds, codes, impl.MaxDeeds, impl.MaxMore)
	}
}

func TestDeedOk(t *testing.T) {
	for _, x := range []struct {
		d    impl.Deed
		want bool
	}{
		{impl.Deed{}, false},
		{impl.Deed{Kind: 1}, true},
		{impl.Deed{Kind: 2}, true},
		{impl.Deed{Kind: 3}, true},
		{impl.Deed{Kind: 4}, true},
		{impl.Deed{Kind: 5}, true},
		{impl.Deed{Kind: 6}, false},
		{impl.Deed{Kind: -1}, false},
		{impl.Deed{Kind: 1, B: 50}, true},
		{impl.Deed{Kind: 1, B: 51}, false},
		{impl.Deed{Kind: 1, A: math.MaxInt, B: 50}, true},
		{impl.Deed{Kind: 2, A: math.MaxInt, B: math.MaxInt}, true},
		{impl.Deed{Kind: 2, A: 51, B: 51}, true},
		{impl.Deed{Kind: 3, A: math.MaxInt}, true},
		{impl.Deed{Kind: 3, B: 1}, false},
		{impl.Deed{Kind: 4, B: 1}, false},
		{impl.Deed{Kind: 5, B: 1}, false},
	} {
		if impl.DeedOk(x.d) != x.want {
			t.Errorf("DeedOk of %+v is %v", x.d, !x.want)
		}
	}
	some := []int{math.MinInt, -1 << 32, -51, -2, -1, 0, 1, 2, 12, 49, 50, 51, 52, 300, lastPid, lastPid + 1, 1 << 32, math.MaxInt}
	for _, kind := range []int{math.MinInt, -5, -1, 0, 1, 2, 3, 4, 5, 6, 7, 1<<32 + 1, math.MaxInt} {
		for _, a := range some {
			for _, b := range some {
				d := impl.Deed{Kind: kind, A: a, B: b}
				if want := deedByRules(d); impl.DeedOk(d) != want {
					t.Errorf("DeedOk of %+v is %v", d, !want)
				}
			}
		}
	}
}

// goodDeeds: one of each kind at least, that may be done where there is something.
func goodDeeds() []impl.Deed {
	return []impl.Deed{stepOf(1, 0), stepOf(1, mostMore), stepOf(3, 4), stepOf(lastPid, 0), showOf(0, 1), showOf(1, 0), showOf(2, 2), showOf(0, math.MaxInt), giveOf(0), giveOf(1), giveOf(2), giveOf(11), copyGram(0), copyGram(math.MaxInt), loseOf(0), loseOf(2)}
}

func badDeeds() []impl.Deed {
	return []impl.Deed{{}, {Kind: 6}, {Kind: -1}, {Kind: math.MaxInt}, {Kind: 1, A: -1}, {Kind: 1, A: 1, B: -1}, {Kind: 1, A: 1, B: 51}, {Kind: 2, A: -1}, {Kind: 2, B: -1}, {Kind: 2, A: math.MinInt, B: 1}, {Kind: 3, A: -1}, {Kind: 3, B: 1}, {Kind: 4, A: -1}, {Kind: 4, B: 1}, {Kind: 5, A: math.MinInt}, {Kind: 5, B: math.MaxInt}}
}

func TestBadDeedsToWorlds(t *testing.T) {
	for why, w := range rightWorlds() {
		for _, d := range badDeeds() {
			askBadDeed(t, why, w, d)
		}
		for _, d := range goodDeeds() {
			want, code := deedDoneByRules(w, d)
			askDeed(t, why, w, d, code, want)
		}
	}
	for _, d := range slices.Concat(goodDeeds(), badDeeds()) {
		askBadDeed(t, "no world", impl.World{}, d)
	}
}

// Of worlds that are not right each deed is bad, be it right or not; of others it comes to what the rules tell.
func TestDeedsToTurnedWorlds(t *testing.T) {
	t.Parallel()
	good, bad := goodDeeds(), badDeeds()
	codes, count := map[int]int{}, 0
	eachTurned(func(why string, w impl.World, right bool) {
		count++
		if !right {
			askBadDeed(t, why, w, slices.Concat(good, bad)[count%(len(good)+len(bad))])
			return
		}
		for _, d := range []impl.Deed{good[count%len(good)], bad[count%len(bad)]} {
			want, code := deedDoneByRules(w, d)
			askDeed(t, why, w, d, code, want)
			codes[code]++
		}
	})
	for code := isDone; code <= isFull; code++ {
		if codes[code] < 10 {
			t.Error("so often was a code told", codes)
		}
	}
}

func TestStepOfNobody(t *testing.T) {
	for places := 1; places <= mostPlaces; places++ {
		w := askersWorld(places, homeAt(0, asker(1, 14)), homeAt(places-1, asker(7, 14)))
		setWay(&w, 0, 0, procMove(5))
		setWay(&w, places*places-1, 1, procMove(6), procMove(5), wordBytes(4, aWord))
		w.Parked = []impl.Parked{{At: 0, To: 3, Text: aWord}}
		for _, more := range someMore() {
			for _, pid := range []int{0, 2, 3, 4, 5, 6, 8, 9, 10, lastPid, lastPid + 1, math.MaxInt} {
				askStays(t, "nobody", w, stepOf(pid, more), isNone)
				askStays(t, "nobody anywhere", bareWorld(places), stepOf(pid, more), isNone)
			}
		}
	}
}

// steppedTimes: the process behind so many steps, or at the first act that is not AcRan; and that act.
func steppedTimes(c impl.Code, p impl.Proc, places int, count int) (impl.Proc, impl.Act) {
	act := ran()
	for range count {
		if p, act = impl.ProcStep(c, p, places); act.Kind != impl.AcRan {
			break
		}
	}
	return p, act
}

// What runs on takes B and one steps, and nothing else of the world is turned.
func TestStepsOfWhatRunsOn(t *testing.T) {
	for _, text := range []string{endless, growing, "(define (f n) (f (+ n 1))) (f 0)"} {
		for places := 1; places <= mostPlaces; places++ {
			w := programWorld(t, places, text)
			other, _ := impl.ProcNew(w.Code, "main", 7)
			w.Homes = []impl.Home{{At: 0, P: other}, {At: places - 1, P: w.Homes[0].P}, {At: 0, P: other}}
			for more := 0; more <= mostMore; more++ {
				p, act := steppedTimes(w.Code, w.Homes[1].P, places, more+1)
				if act.Kind != impl.AcRan {
					t.Fatal("it does not run on", text)
				}
				askTurns(t, text, w, stepOf(1, more), func(w *impl.World) { w.Homes[1].P = p })
			}
			// One after the other they come to the same as all at once.
			all, _ := impl.WorldDo(w, stepOf(1, mostMore))
			one := w
			for range mostMore + 1 {
				one, _ = impl.WorldDo(one, stepOf(1, 0))
			}
			if !sameWorld(one, all) {
				t.Error("one by one it is another world", text)
			}
		}
	}
}

// A machine with much in its pool is tidied at the same step.
func TestStepsAreTidiedAsTheyGo(t *testing.T) {
	w := programWorld(t, 2, endless)
	for count := 1980; count <= 2001; count++ {
		w.Homes[0].P.M = withNodes(w.Homes[0].P.M, max(count, len(w.Homes[0].P.M.Pool.Nodes)))
		for _, more := range someMore() {
			p, _ := steppedTimes(w.Code, w.Homes[0].P, 2, more+1)
			askTurns(t, "much in the pool", w, stepOf(1, more), func(w *impl.World) { w.Homes[0].P = p })
		}
	}
}

func TestStepsOfWhatIsOver(t *testing.T) {
	_, machines := machinesToAsk()
	for _, m := range machines[2:] {
		for _, p := range []impl.Proc{{Pid: 5, M: m}, {Pid: 5, M: filled(m, 0), Box: mail(mostBox), Out: printed(mostOut)}} {
			w := askersWorld(2, homeAt(0, asker(1, 14)), homeAt(1, p))
			for more := 0; more <= mostMore; more++ {
				askStays(t, "over", w, stepOf(5, more), isEnd)
			}
		}
	}
}

// What ends behind some steps stays at its end, and ends at the first step from there on.
func TestStepsThatComeToAnEnd(t *testing.T) {
	for text, steps := range map[string]int{
		"5":                            2,
		"(print 5)":                    5,
		"(car 5)":                      3,
		"(do (print 1) (print 2) (x))": 11,
	} {
		w := programWorld(t, 2, text)
		for more := 0; more <= mostMore; more++ {
			p, act := steppedTimes(w.Code, w.Homes[0].P, 2, more+1)
			if isOver := p.M.State == impl.MsDone || p.M.State == impl.MsFail; isOver != (more+1 >= steps) || (act.Kind == impl.AcEnd) != (more+1 > steps) {
				t.Fatalf("%s: %d steps are not as they should be: %s", text, more+1, toldProc(p))
			}
			askTurns(t, text, w, stepOf(1, more), func(w *impl.World) { w.Homes[0].P = p })
			if more+1 >= steps {
				over, _ := impl.WorldDo(w, stepOf(1, more))
				for _, again := range someMore() {
					askStays(t, text+", over", over, stepOf(1, again), isEnd)
				}
			}
		}
	}
}

func TestStepsOfWhatWaits(t *testing.T) {
	for places := 1; places <= mostPlaces; places++ {
		p := asker(5, 16)
		p.Box = nil
		w := askersWorld(places, homeAt(0, asker(1, 14)), homeAt(places-1, p))
		w.Parked = []impl.Parked{{At: places - 1, To: 5, Text: aWord}}
		for more := 0; more <= mostMore; more++ {
			askStays(t, "it waits", w, stepOf(5, more), isWait)
		}
		// With something in its box it takes it, and runs on.
		w.Homes[1].P.Box = words(aWord, aWord)
		askTurns(t, "it takes", w, stepOf(5, 0), func(w *impl.World) {
			w.Homes[1].P = answeredBy(p, symNode("word"))
			w.Homes[1].P.Box = words(aWord)
		})
	}
	// It waits behind some steps: what was done till then stays.
	text := "(do (print 1) (print (recv)) (print 2) (recv))"
	w := programWorld(t, 1, text)
	for _, box := range [][]string{nil, words(aWord)} {
		w.Homes[0].P.Box = box
		want := [][]string{words("1"), words("1", "word", "2")}[len(box)]
		for more := 0; more <= mostMore; more++ {
			p, _ := steppedTimes(w.Code, w.Homes[0].P, 1, more+1)
			askTurns(t, text, w, stepOf(1, more), func(w *impl.World) { w.Homes[0].P = p })
		}
		waiting, _ := impl.WorldDo(w, stepOf(1, mostMore))
		if p := waiting.Homes[0].P; !slices.Equal(p.Out, want) || p.M.State != impl.MsAsk || len(p.Box) != 0 {
			t.Error("it does not wait, or printed something else", toldProc(p))
		}
		for _, more := range someMore() {
			askStays(t, text+", waiting", waiting, stepOf(1, more), isWait)
		}
	}
}

// The steps end with the first act that is not AcRan, however many more there may be.
func TestStepsEndWithTheFirstAct(t *testing.T) {
	for _, x := range []struct {
		text  string
		homes int
	}{
		{"(do (print 1) (send (self) 5) (print 2) (send (self) 6) (print 3))", 1},
		{"(do (print 1) (go 0) (print 2) (go 0) (print 3))", 1},
		{"(do (print 1) (spawn (fn () 5)) (print 2) (spawn (fn () 6)) (print 3))", 3},
	} {
		w := programWorld(t, 2, x.text)
		code := 0
		for i, want := range [][]string{words("1"), words("1", "2"), words("1", "2", "3")} {
			w, code = impl.WorldDo(w, stepOf(1, mostMore))
			if out := w.Homes[0].P.Out; code != isDone || !slices.Equal(out, want) {
				t.Errorf("%s: %d times, and it tells %d and %q", x.text, i+1, code, out)
			}
		}
		askStays(t, x.text, w, stepOf(1, mostMore), isEnd)
		if len(w.Homes) != x.homes {
			t.Error("so many homes", len(w.Homes))
		}
	}
	w := programWorld(t, 2, "(do (print 1) (go 1) (print 2))")
	w, _ = impl.WorldDo(w, stepOf(1, mostMore))
	askStays(t, "it has gone", w, stepOf(1, mostMore), isNone)
	if p, ok := impl.ProcRead(w.Code, mailRead(w.Gave[1][0]).text); !ok || !slices.Equal(p.Out, words("1")) {
		t.Error("it went on ahead of going", toldProc(p))
	}
}

func TestStepsThatPrint(t *testing.T) {
	for places := 1; places <= mostPlaces; places++ {
		for _, count := range []int{0, 1, mostOut - 1, mostOut} {
			p := asker(5, 13, symNode("word"))
			p.Out = printed(count)
			w := askersWorld(places, homeAt(0, asker(1, 14)), homeAt(places-1, p))
			askTurns(t, "it prints", w, stepOf(5, 0), func(w *impl.World) {
				if count == mostOut {
					w.Homes[1].P.M = failed(p.M, impl.FlFull)
					return
				}
				w.Homes[1].P = answeredBy(p, nilNode())
				w.Homes[1].P.Out = append(printed(count), "word")
			})
			askTurns(t, "it asks who it is", w, stepOf(1, 0), func(w *impl.World) { w.Homes[0].P = answeredBy(w.Homes[0].P, pidNode(1)) })
		}
	}
	// All in one deed: MaxOut are printed, and then it fails.
	w := programWorld(t, 1, endlessPrinting)
	codes := []int{}
	for range 20 {
		code := 0
		w, code = impl.WorldDo(w, stepOf(1, mostMore))
		codes = append(codes, code)
	}
	if p := w.Homes[0].P; len(p.Out) != mostOut || p.M.State != impl.MsFail || p.M.Ask != impl.FlFull || codes[0] != isDone || codes[19] != isEnd {
		t.Error("it prints on and on", codes, toldProc(p))
	}
}

func TestGoesToItsOwnPlaceOrToNone(t *testing.T) {
	for places := 1; places <= mostPlaces; places++ {
		for at := range places {
			others := []impl.Home{homeAt(0, aProc(2)), homeAt(places-1, aProc(3))}
			going := func(n impl.Node) (impl.World, impl.Proc) {
				p := asker(5, 19, n)
				return askersWorld(places, others[0], homeAt(at, p), others[1]), p
			}
			w, p := going(intNode(at))
			for number := range w.Links {
				fullWay(&w, number)
			}
			askTurns(t, "to its own place", w, stepOf(5, mostMore), func(w *impl.World) { w.Homes[1].P = answeredBy(p, nilNode()) })
			for _, n := range []impl.Node{intNode(places), intNode(-1), intNode(mostPlaces), intNode(lastPid), intNode(-lastPid), symNode("x"), nilNode(), boolNode(1), pidNode(0)} {
				w, p := going(n)
				askTurns(t, "to no place", w, stepOf(5, 0), func(w *impl.World) { w.Homes[1].P.M = failed(p.M, impl.FlType) })
				askTurns(t, "to no place, and on", w, stepOf(5, mostMore), func(w *impl.World) { w.Homes[1].P.M = failed(p.M, impl.FlType) })
			}
		}
	}
}

// A sending is a world of three places in which 1 at place from sends a word to 5.
func sending(from int, homes ...impl.Home) impl.World {
	return askersWorld(3, slices.Concat([]impl.Home{homeAt(from, asker(1, 15, pidNode(5), symNode("word")))}, homes)...)
}

// hasSent: 1 was answered.
func hasSent(w *impl.World) { w.Homes[0].P = answeredBy(w.Homes[0].P, nilNode()) }

func TestSentToNowhere(t *testing.T) {
	for from := range 3 {
		w := sending(from, homesOf(from, 2, 3, 4, 6)...)
		for number := range w.Links {
			setWay(&w, number, 1, procMove(5), procMove(7), wordBytes(5, aWord))
		}
		w.Parked = slices.Repeat([]impl.Parked{{At: from, To: 5}}, mostParked)
		for _, more := range someMore() {
			askTurns(t, "nowhere", w, stepOf(1, more), hasSent)
		}
		for _, pid := range []int{0, 8, 9, lastPid} {
			w.Homes[0].P = asker(1, 15, pidNode(pid), symNode("word"))
			askTurns(t, fmt.Sprint("to ", pid), w, stepOf(1, mostMore), hasSent)
		}
		// What is no pid can't be sent to.
		w.Homes[0].P = asker(1, 15, intNode(2), symNode("word"))
		askTurns(t, "to a number", w, stepOf(1, 0), func(w *impl.World) { w.Homes[0].P.M = failed(w.Homes[0].P.M, impl.FlType) })
	}
}

func TestSentToAHomeAtThePlace(t *testing.T) {
	for from := range 3 {
		for count := range mostBox + 1 {
			w := sending(from, homeAt(from, aProc(2)), homeAt(from, aProc(5)), homeAt(from, aProc(6)))
			w.Homes[2].P.Box = mail(count)
			w.Parked = slices.Repeat([]impl.Parked{{At: from, To: 5, Text: aWord}}, mostParked)
			for number := range w.Links {
				fullWay(&w, number)
			}
			askTurns(t, fmt.Sprint("to a box of ", count), w, stepOf(1, 7), func(w *impl.World) {
				hasSent(w)
				if count < mostBox {
					w.Homes[2].P.Box = append(mail(count), aWord)
				}
			})
		}
		// Of two of one pid the first one counts, wherever the other one is, and whatever is on its way.
		w := sending(from, homeAt(from, aProc(5)), homeAt((from+1)%3, aProc(5)), homeAt(from, aProc(5)))
		setWay(&w, 3*from+(from+1)%3, 0, procMove(5))
		askTurns(t, "to the first of three", w, stepOf(1, 7), func(w *impl.World) {
			hasSent(w)
			w.Homes[1].P.Box = append(w.Homes[1].P.Box, aWord)
		})
	}
}

func TestSentToItself(t *testing.T) {
	for from := range 3 {
		for count := range mostBox + 1 {
			w := sending(from, homesOf(from, 2)...)
			w.Homes[0].P = asker(1, 15, pidNode(1), symNode("word"))
			w.Homes[0].P.Box = mail(count)
			for _, more := range someMore() {
				askTurns(t, "to itself", w, stepOf(1, more), func(w *impl.World) {
					hasSent(w)
					if count < mostBox {
						w.Homes[0].P.Box = append(mail(count), aWord)
					}
				})
			}
		}
	}
	w := programWorld(t, 1, "(do (send (self) 4) (send (self) (quote (a b))) (print (recv)) (print (recv)))")
	for range 3 {
		w, _ = impl.WorldDo(w, stepOf(1, mostMore))
	}
	if out := w.Homes[0].P.Out; !slices.Equal(out, words("4", "(a b)")) {
		t.Error("it sent to itself, and printed", out)
	}
}

func TestSentToOneOnItsWayToThePlace(t *testing.T) {
	for from := range 3 {
		for by := range 3 {
			for count := range mostParked + 1 {
				w := sending(from, homesOf(from, 2)...)
				setWay(&w, 3*by+from, 1, "x", procMove(6), procMove(5))
				w.Parked = slices.Repeat([]impl.Parked{{At: 0, To: 5}, {At: 2, To: 4, Text: aWord}}, mostParked)[:count]
				why := fmt.Sprint("on its way from ", by, " to ", from, " with ", count, " parked")
				if count == mostParked {
					askStays(t, why, w, stepOf(1, 0), isFull)
					askStays(t, why, w, stepOf(1, mostMore), isFull)
					continue
				}
				askTurns(t, why, w, stepOf(1, mostMore), func(w *impl.World) {
					hasSent(w)
					w.Parked = append(w.Parked, impl.Parked{At: from, To: 5, Text: aWord})
				})
			}
		}
	}
}

// Elsewhere at home, or on its way to elsewhere: on the link from the one place to the other.
func TestSentElsewhere(t *testing.T) {
	for from := range 3 {
		for to := range 3 {
			if from == to {
				continue
			}
			number := 3*from + to
			worlds := map[string]impl.World{"at home": sending(from, append(homesOf(from, 2), homesOf(to, 5)...)...)}
			for by := range 3 {
				w := sending(from, homesOf(from, 2)...)
				setWay(&w, 3*by+to, 1, "x", procMove(5))
				worlds[fmt.Sprint("on its way from ", by)] = w
			}
			for why, w := range worlds {
				why = fmt.Sprint(why, ", from ", from, " to ", to)
				w.Parked = slices.Repeat([]impl.Parked{{At: to, To: 5}}, mostParked)
				askTurns(t, why, w, stepOf(1, mostMore), func(w *impl.World) {
					hasSent(w)
					addMail(w, number, wordBytes(5, aWord))
				})
				if why[:2] == "on" && w.Links[number].Sent > 0 {
					continue
				}
				for queue := 28; queue <= 30; queue++ {
					setLink(&w, number, aLink(40+queue, 40, 42))
					if queue == 30 {
						askStays(t, why+", a full link", w, stepOf(1, 0), isFull)
						continue
					}
					askTurns(t, why+", a link with room", w, stepOf(1, 0), func(w *impl.World) {
						hasSent(w)
						addMail(w, number, wordBytes(5, aWord))
					})
				}
				lastWay(&w, number)
				askStays(t, why+", no more numbers", w, stepOf(1, mostMore), isFull)
				setLink(&w, number, aLink(lastNo-1, lastNo-5, lastNo-3, lastNo-2))
				askTurns(t, why+", the last number", w, stepOf(1, mostMore), func(w *impl.World) {
					hasSent(w)
					addMail(w, number, wordBytes(5, aWord))
				})
			}
		}
	}
}

// With no room for the answer the machine fails, and what it sends is sent all the same.
func TestSentByWhatFindsNoRoom(t *testing.T) {
	w := sending(0, homesOf(0, 5)...)
	w.Homes[0].P.M = filled(w.Homes[0].P.M, 1)
	askTurns(t, "at home", w, stepOf(1, 3), func(w *impl.World) {
		w.Homes[0].P.M = failed(w.Homes[0].P.M, impl.FlFull)
		w.Homes[1].P.Box = append(w.Homes[1].P.Box, aWord)
	})
	w.Homes[1].At = 2
	askTurns(t, "elsewhere", w, stepOf(1, 3), func(w *impl.World) {
		w.Homes[0].P.M = failed(w.Homes[0].P.M, impl.FlFull)
		addMail(w, 2, wordBytes(5, aWord))
	})
}

// With WdFull the world is as it was ahead of all steps of the deed, not of the last one alone.
func TestFullTakesBackAllSteps(t *testing.T) {
	fiveIs := nodeBytes(pidNode(5))
	for _, x := range []struct {
		text  string
		steps int
		turn  func(w *impl.World)
	}{
		{"(do (print 1) (print (self)) (send (recv) 3) (print 4))", 19, func(w *impl.World) {
			w.Homes = append(w.Homes, homeAt(1, impl.Proc{Pid: 5, M: w.Homes[0].P.M}))
			fullWay(w, 1)
		}},
		{"(do (print 1) (print (self)) (send (recv) 3) (print 4))", 19, func(w *impl.World) {
			setWay(w, 2, 0, moveBytes(procBytes(impl.Proc{Pid: 5, M: w.Homes[0].P.M})))
			w.Parked = make([]impl.Parked, mostParked)
		}},
		{"(do (print 1) (print (recv)) (go 1) (print 4))", 16, func(w *impl.World) { lastWay(w, 1) }},
		{"(do (print 1) (print (recv)) (spawn (fn () 1)) (print 4))", 17, func(w *impl.World) { w.Next = lastPid }},
		{"(do (print 1) (print (recv)) (spawn (fn () 1)) (print 4))", 17, func(w *impl.World) { w.Homes = slices.Repeat(w.Homes, mostProcs) }},
	} {
		w := programWorld(t, 2, x.text)
		w.Homes[0].P.Box = words(fiveIs)
		x.turn(&w)
		refused := 0
		for more := 0; more <= mostMore; more++ {
			p, act := steppedTimes(w.Code, w.Homes[0].P, 2, more+1)
			if act.Kind == impl.AcRan {
				askTurns(t, x.text, w, stepOf(1, more), func(w *impl.World) { w.Homes[0].P = p })
				continue
			}
			askStays(t, x.text, w, stepOf(1, more), isFull)
			refused++
		}
		if refused != mostMore+2-x.steps {
			t.Errorf("%s: so many were refused: %d", x.text, refused)
		}
	}
}

// spawning: a world in which 1 at that place spawns a function that begins at place 1 of the code.
func spawning(at int, homes int) impl.World {
	w := askersWorld(3, homeAt(at, asker(1, 17, funNode(8, 2))))
	for pid := 2; pid <= homes; pid++ {
		w.Homes = append(w.Homes, homeAt(pid%3, aProc(pid)))
	}
	w.Next = 40
	return w
}

// spawnedAt: the process that begins that function, which knows a KNil.
func spawnedAt(at int, pid int) impl.Home {
	m := impl.Machine{Pool: poolOf(nilNode(), funNode(8, 0), nilNode(), pairNode(2, 0)), At: 1, S: 2, E: 3, D: 2}
	return homeAt(at, impl.Proc{Pid: pid, M: m})
}

func TestSpawned(t *testing.T) {
	for at := range 3 {
		for homes := 1; homes <= mostProcs; homes++ {
			for _, next := range []int{1, 2, 40, lastPid - 1, lastPid} {
				w := spawning(at, homes)
				w.Next = next
				for number := range w.Links {
					fullWay(&w, number)
				}
				why := fmt.Sprint(homes, " homes, next ", next)
				if homes == mostProcs || next == lastPid {
					askStays(t, why, w, stepOf(1, 0), isFull)
					askStays(t, why, w, stepOf(1, mostMore), isFull)
					continue
				}
				askTurns(t, why, w, stepOf(1, mostMore), func(w *impl.World) {
					w.Homes[0].P = answeredBy(w.Homes[0].P, pidNode(next))
					w.Homes = append(w.Homes, spawnedAt(at, next))
					w.Next = next + 1
				})
			}
		}
	}
	// The one that asks may be any of them.
	w := spawning(2, 4)
	w.Homes[0], w.Homes[2] = w.Homes[2], w.Homes[0]
	askTurns(t, "the third", w, stepOf(1, 0), func(w *impl.World) {
		w.Homes[2].P = answeredBy(w.Homes[2].P, pidNode(40))
		w.Homes = append(w.Homes, spawnedAt(2, 40))
		w.Next = 41
	})
	// What is no function of none, or begins nowhere, can't be spawned: the machine fails.
	for _, n := range []impl.Node{funNode(9, 2), funNode(32, 2), nilNode(), primNode(14), intNode(8)} {
		w.Homes[2].P = asker(1, 17, n)
		askTurns(t, "no function", w, stepOf(1, 0), func(w *impl.World) { w.Homes[2].P.M = failed(w.Homes[2].P.M, impl.FlType) })
	}
}

// spawningOf: as spawning, of a function that has just so many nodes as a value.
func spawningOf(count int) impl.World {
	w := spawning(1, 3)
	p := chain(count - 1)
	p.Nodes = append(p.Nodes, funNode(16, count-2), pairNode(count-1, 0))
	w.Homes[0].P.M = impl.Machine{Pool: p, At: 2, State: impl.MsAsk, Ask: 17, Arg: count}
	return w
}

// A function of so many nodes that there is no room for two more begins no machine.
func TestSpawnedOfNoMachine(t *testing.T) {
	for _, count := range []int{2, 3, 100, 2000, impl.MaxNodes - 4, impl.MaxNodes - 3, impl.MaxNodes - 2, impl.MaxNodes - 1} {
		w := spawningOf(count)
		askWorldOk(t, "spawning", w, true)
		if count > impl.MaxNodes-2 {
			askStays(t, fmt.Sprint("of ", count), w, stepOf(1, 0), isFull)
			continue
		}
		askTurns(t, fmt.Sprint("of ", count), w, stepOf(1, 0), func(w *impl.World) {
			p := chain(count - 1)
			p.Nodes = append(p.Nodes, funNode(16, count-2), nilNode(), pairNode(count, count-2))
			w.Homes = append(w.Homes, homeAt(1, impl.Proc{Pid: 40, M: impl.Machine{Pool: p, At: 2, S: count, E: count + 1, D: count}}))
			w.Next = 41
			// There may be no room for the answer: it is spawned all the same, and the one that asked has failed.
			if m := w.Homes[0].P.M; len(m.Pool.Nodes)+2 > impl.MaxNodes {
				w.Homes[0].P.M = failed(m, impl.FlFull)
			} else {
				w.Homes[0].P.M = answeredWith(m, pidNode(40))
			}
		})
	}
}

// leaving: a world of three places in which 5 goes from one place to another.
func leaving(from int, to int) impl.World {
	return askersWorld(3, homeAt(from, aProc(2)), homeAt(to, aProc(3)), homeAt(from, asker(5, 19, intNode(to))), homeAt(from, aProc(4)))
}

func TestGoesElsewhere(t *testing.T) {
	for from := range 3 {
		for to := range 3 {
			if from == to {
				continue
			}
			number := 3*from + to
			w := leaving(from, to)
			hasGone := func(w *impl.World) {
				addMail(w, number, moveBytes(procBytes(answeredBy(w.Homes[2].P, nilNode()))))
				w.Homes = slices.Delete(w.Homes, 2, 3)
			}
			why := fmt.Sprint("from ", from, " to ", to)
			for _, more := range someMore() {
				askTurns(t, why, w, stepOf(5, more), hasGone)
			}
			gone, _ := impl.WorldDo(w, stepOf(5, 0))
			askWhere(t, why, gone, 5, to)
			for queue := range 31 {
				setLink(&w, number, aLink(50+queue, 50, 50))
				if queue < 30 {
					askTurns(t, fmt.Sprint(why, " behind ", queue), w, stepOf(5, 3), hasGone)
				} else {
					askStays(t, why+", a full link", w, stepOf(5, 3), isFull)
				}
			}
			lastWay(&w, number)
			askStays(t, why+", no more numbers", w, stepOf(5, 0), isFull)
			// No other link counts.
			for other := range w.Links {
				fullWay(&w, other)
			}
			setLink(&w, number, impl.Link{})
			askTurns(t, why+", all others full", w, stepOf(5, 0), hasGone)
		}
	}
	// With no room for its answer it goes, and has failed.
	w := leaving(0, 1)
	w.Homes[2].P.M = filled(w.Homes[2].P.M, 0)
	askTurns(t, "no room", w, stepOf(5, 0), func(w *impl.World) {
		p := w.Homes[2].P
		p.M = failed(p.M, impl.FlFull)
		addMail(w, 1, moveBytes(procBytes(p)))
		w.Homes = slices.Delete(w.Homes, 2, 3)
	})
	// Of two of one pid the first one goes.
	w = leaving(0, 1)
	w.Homes = append(w.Homes, w.Homes[2])
	askTurns(t, "two of one pid", w, stepOf(5, 0), func(w *impl.World) {
		addMail(w, 1, moveBytes(procBytes(answeredBy(w.Homes[2].P, nilNode()))))
		w.Homes = slices.Delete(w.Homes, 2, 3)
	})
}

func TestDeedsThatShow(t *testing.T) {
	for places := 2; places <= mostPlaces; places++ {
		for from := range places {
			for to := range places {
				number := places*from + to
				for queue := range 8 {
					for grams := range mostGrams + 1 {
						w := busyWorld(places)
						setLink(&w, number, aLink(20+queue, 20, 20))
						w.Grams = gramsOf(grams, impl.Gram{Kind: 2, From: 1, P: impl.Piece{No: 7}})
						d, why := showOf(from, to), fmt.Sprint("from ", from, " to ", to, ", queue ", queue, ", grams ", grams)
						switch {
						case from == to:
							askStays(t, why, w, d, isNone)
						case queue == 0:
							askStays(t, why, w, d, isWait)
						case grams == mostGrams:
							askStays(t, why, w, d, isFull)
						default:
							askTurns(t, why, w, d, func(w *impl.World) {
								for i := range min(4, queue, mostGrams-grams) {
									w.Grams = append(w.Grams, impl.Gram{Kind: 1, From: from, To: to, P: pieceOf(20 + i)})
								}
							})
						}
					}
				}
			}
		}
	}
}

func TestDeedsThatShowNoPlace(t *testing.T) {
	t.Parallel()
	for places := 1; places <= mostPlaces; places++ {
		for _, w := range []impl.World{bareWorld(places), busyWorld(places), fullWorld(places)} {
			for _, far := range []int{places, places + 1, mostPlaces, 9, 1 << 32, math.MaxInt} {
				for near := range places {
					askStays(t, "from no place", w, showOf(far, near), isNone)
					askStays(t, "to no place", w, showOf(near, far), isNone)
				}
				askStays(t, "no places", w, showOf(far, far), isNone)
				askStays(t, "no places", w, showOf(far, far-1), isNone)
			}
		}
	}
}

// What the other side has, but did not tell of, is shown again; what it told of is not.
func TestDeedsThatShowGoByWhatWasToldOf(t *testing.T) {
	for acked := range 6 {
		for got := acked; got < 6; got++ {
			w := bareWorld(2)
			setLink(&w, 2, aLink(6, acked, got))
			askTurns(t, fmt.Sprint("acked ", acked, ", got ", got), w, showOf(1, 0), func(w *impl.World) {
				for no := acked; no < min(6, acked+4); no++ {
					w.Grams = append(w.Grams, impl.Gram{Kind: 1, From: 1, To: 0, P: pieceOf(no)})
				}
			})
			askStays(t, "the other way", w, showOf(0, 1), isWait)
		}
	}
}

func dataGram(from int, to int, p impl.Piece) impl.Gram {
	return impl.Gram{Kind: 1, From: from, To: to, P: p}
}

func ackGram(from int, to int, no int) impl.Gram {
	return impl.Gram{Kind: 2, From: from, To: to, P: impl.Piece{No: no}}
}

func TestDeedsToGramsThatAreNotThere(t *testing.T) {
	for places := 1; places <= mostPlaces; places++ {
		for _, w := range []impl.World{bareWorld(places), busyWorld(places), fullWorld(places)} {
			count := len(w.Grams)
			for _, at := range []int{count, count + 1, mostGrams, 300, 1 << 32, math.MaxInt} {
				askStays(t, "give", w, giveOf(at), isNone)
				askStays(t, "copy", w, copyGram(at), isNone)
				askStays(t, "lose", w, loseOf(at), isNone)
			}
		}
	}
}

// otherGrams: so many, no two alike, none of which is what a deed adds.
func otherGrams(count int) []impl.Gram {
	var list []impl.Gram
	for i := range count {
		list = append(list, ackGram(i%2, 1-i%2, 900+i))
	}
	return list
}

// Data in order, out of order, twice, out of the window and beyond what was sent; each with its answer behind all grams.
func TestGiveOfData(t *testing.T) {
	t.Parallel()
	for places := 1; places <= mostPlaces; places++ {
		for from := range places {
			for to := range places {
				number := places*from + to
				for _, x := range []struct {
					why  string
					link impl.Link
					no   int
					next impl.Link
					up   []string
				}{
					{"in order", aLink(9, 2, 3), 3, aLink(9, 2, 4), payloads(3, 4)},
					{"in order, the last one", aLink(4, 2, 3), 3, aLink(4, 2, 4), payloads(3, 4)},
					{"in order, and held behind it", aLink(9, 2, 3, 4, 5), 3, aLink(9, 2, 6), payloads(3, 6)},
					{"in order, and held with a gap", aLink(9, 2, 3, 4, 6), 3, aLink(9, 2, 5, 6), payloads(3, 5)},
					{"in order, and held behind a gap", aLink(9, 2, 3, 5), 3, aLink(9, 2, 4, 5), payloads(3, 4)},
					{"out of order", aLink(9, 2, 3), 5, aLink(9, 2, 3, 5), nil},
					{"out of order, among others", aLink(9, 2, 3, 4, 6), 5, aLink(9, 2, 3, 4, 5, 6), nil},
					{"twice, held", aLink(9, 2, 3, 5), 5, aLink(9, 2, 3, 5), nil},
					{"twice, handed up", aLink(9, 2, 3, 5), 2, aLink(9, 2, 3, 5), nil},
					{"twice, told of", aLink(9, 2, 3, 5), 0, aLink(9, 2, 3, 5), nil},
					{"at the window", aLink(9, 2, 3), 6, aLink(9, 2, 3, 6), nil},
					{"out of the window", aLink(9, 2, 3), 7, aLink(9, 2, 3), nil},
					{"far out of the window", aLink(9, 2, 3), lastNo, aLink(9, 2, 3), nil},
					{"just what was not sent", aLink(3, 2, 3), 3, aLink(3, 2, 3), nil},
					{"beyond what was sent", aLink(5, 2, 3), 5, aLink(5, 2, 3), nil},
					{"nothing was sent", aLink(0, 0, 0), 0, aLink(0, 0, 0), nil},
					{"the last number", aLink(lastNo, lastNo-1, lastNo-1), lastNo - 1, aLink(lastNo, lastNo-1, lastNo), payloads(lastNo-1, lastNo)},
				} {
					for _, count := range []int{1, 2, 7, mostGrams} {
						for _, at := range []int{0, count / 2, count - 1} {
							w := bareWorld(places)
							if places > 1 {
								w.Grams = otherGrams(count)
							} else {
								w.Grams = gramsOf(count, ackGram(0, 0, 0))
							}
							setLink(&w, number, x.link)
							w.Grams[at] = dataGram(from, to, pieceOf(x.no))
							why := fmt.Sprint(x.why, ", from ", from, " to ", to, ", gram ", at, " of ", count)
							askTurns(t, why, w, giveOf(at), func(w *impl.World) {
								w.Links[number] = x.next
								w.Took[number] = append(w.Took[number], x.up...)
								w.Grams = append(slices.Delete(w.Grams, at, at+1), ackGram(to, from, x.next.Got))
							})
						}
					}
				}
			}
		}
	}
}

// A gram's own text is what is handed up or held, whatever was handed in.
func TestGiveGoesByTheGramsText(t *testing.T) {
	w := bareWorld(2)
	setLink(&w, 1, aLink(5, 0, 0))
	w.Grams = []impl.Gram{dataGram(0, 1, impl.Piece{No: 1, Text: "held"}), dataGram(0, 1, impl.Piece{Text: "up"})}
	w, _ = impl.WorldRun(w, []impl.Deed{giveOf(0), giveOf(0)})
	if !slices.Equal(w.Took[1], words("up", "held")) || !slices.Equal(w.Grams, []impl.Gram{ackGram(1, 0, 0), ackGram(1, 0, 2)}) {
		t.Error("given", w.Took, w.Grams)
	}
}

func TestGiveOfWhatTellsOf(t *testing.T) {
	for places := 1; places <= mostPlaces; places++ {
		for from := range places {
			for to := range places {
				number := places*to + from
				for no := range 12 {
					for _, count := range []int{1, 5, mostGrams} {
						at := no % count
						w := bareWorld(places)
						setLink(&w, number, aLink(9, 3, 6, 8))
						w.Grams = gramsOf(count, dataGram(0, places-1, pieceOf(77)))
						w.Grams[at] = ackGram(from, to, no)
						askTurns(t, fmt.Sprint("from ", from, " to ", to, ", told of ", no), w, giveOf(at), func(w *impl.World) {
							w.Grams = slices.Delete(w.Grams, at, at+1)
							if no > 3 && no <= 6 {
								w.Links[number] = aLink(9, no, 6, 8)
							}
						})
					}
				}
			}
		}
	}
}

func TestCopyAndLose(t *testing.T) {
	for count := 1; count <= mostGrams; count++ {
		w := busyWorld(2)
		w.Grams = otherGrams(count)
		if count > 3 {
			w.Grams[1], w.Grams[count-1] = dataGram(0, 1, pieceOf(3)), dataGram(1, 0, pieceOf(4))
		}
		for at := range count {
			why := fmt.Sprint("gram ", at, " of ", count)
			askTurns(t, why, w, loseOf(at), func(w *impl.World) { w.Grams = slices.Delete(w.Grams, at, at+1) })
			if count == mostGrams {
				askStays(t, why, w, copyGram(at), isFull)
				continue
			}
			askTurns(t, why, w, copyGram(at), func(w *impl.World) { w.Grams = append(w.Grams, w.Grams[at]) })
		}
	}
}

// handing: a world of three places in which these payloads are handed up at once on the link from one place to another, by the gram 0.
func handing(from int, to int, list ...string) impl.World {
	w := askersWorld(3, homeAt(from, aProc(2)), homeAt(to, aProc(3)))
	hand(&w, from, to, list...)
	return w
}

func hand(w *impl.World, from int, to int, list ...string) {
	number := w.Places*from + to
	setWay(w, number, 0, list...)
	for i := 1; i < len(list); i++ {
		w.Links[number].Held = append(w.Links[number].Held, impl.Piece{No: i, Text: list[i]})
	}
	w.Grams = []impl.Gram{dataGram(from, to, impl.Piece{Text: list[0]}), ackGram(0, 1, 50)}
}

// askHandedUp asks what the world is when the gram 0 is given, apart from what is so in any case: it was handed up, and is told of.
func askHandedUp(t *testing.T, why string, w impl.World, turn func(w *impl.World)) {
	t.Helper()
	askTurns(t, why, w, giveOf(0), func(w *impl.World) {
		g := w.Grams[0]
		number := w.Places*g.From + g.To
		w.Took[number] = slices.Clone(w.Gave[number])
		w.Links[number].Got, w.Links[number].Held = len(w.Gave[number]), nil
		w.Grams = append(w.Grams[1:], ackGram(g.To, g.From, len(w.Gave[number])))
		turn(w)
	})
}

func nothingElse(w *impl.World) {}

// ways: from each place to each other one.
func ways(ask func(from int, to int)) {
	for from := range 3 {
		for to := range 3 {
			if from != to {
				ask(from, to)
			}
		}
	}
}

func TestHandedUpOfWhatIsNoPayload(t *testing.T) {
	list := map[string]string{"payload": payload(1), "another kind": "\x03\x01\x01\x01", "kind nought": "\x00\x05\x01\x01", "bytes behind": procMove(5) + "\x00", "a word and more": wordBytes(3, aWord) + "\x00", "a longer form": "\x81\x00\x03\x01\x01"}
	for why, text := range noValues() {
		list["a word: "+why] = wordBytes(3, text)
		list["a word to nobody: "+why] = wordBytes(8, text)
		list["a move: "+why] = moveBytes(text)
	}
	for why, s := range movesNobody(5) {
		if m := mailByRules(s); why != "the move of another one" && !(m.kind == 1 && impl.PutText(m.text)[0] == 2) {
			list[why] = s
		}
	}
	// A process that is right for another code.
	far := aProc(4)
	far.M.At = 4
	list["a move beyond the code"] = moveBytes(joined(procPieces(4, machineBytes(far.M), nil, nil)))
	ways(func(from int, to int) {
		for why, s := range list {
			askHandedUp(t, why, handing(from, to, s), nothingElse)
			w := handing(from, to, s)
			w.Parked = []impl.Parked{{At: to, To: 5, Text: aWord}}
			askHandedUp(t, why+", and parked", w, nothingElse)
		}
		// A word that is no value is not sent on, nor parked: neither for one elsewhere nor for one on its way there.
		for why, text := range noValues() {
			askHandedUp(t, why+" for one elsewhere", handing(from, to, wordBytes(2, text)), nothingElse)
			w := handing(from, to, wordBytes(6, text))
			setWay(&w, 3*(3-from-to)+to, 0, procMove(6))
			askHandedUp(t, why+" for one on its way", w, nothingElse)
			setWay(&w, 3*(3-from-to)+to, 0, "x")
			setWay(&w, 3*to+from, 0, procMove(6))
			askHandedUp(t, why+" for one on its way elsewhere", w, nothingElse)
		}
	})
}

func TestHandedUpProcesses(t *testing.T) {
	ways(func(from int, to int) {
		for homes := 1; homes <= mostProcs; homes++ {
			w := handing(from, to, procMove(5))
			w.Homes = nil
			for i := range homes {
				w.Homes = append(w.Homes, homeAt(i%3, aProc(20+i)))
			}
			why := fmt.Sprint(homes, " homes")
			w.Parked = []impl.Parked{{At: to, To: 5, Text: aWord}}
			if homes == mostProcs {
				askHandedUp(t, why, w, nothingElse)
				continue
			}
			askHandedUp(t, why, w, func(w *impl.World) {
				w.Homes = append(w.Homes, homeAt(to, posted(aProc(5), aWord)))
				w.Parked = nil
			})
		}
		// There is one of its Pid, at any place: it is lost, and what is parked stays so.
		for at := range 3 {
			w := handing(from, to, procMove(5))
			w.Homes = append(w.Homes, homeAt(at, asker(5, 14)))
			w.Parked = []impl.Parked{{At: to, To: 5, Text: aWord}}
			askHandedUp(t, "one of its pid", w, nothingElse)
		}
		// Next does not count, nor what is on its way elsewhere.
		w := handing(from, to, procMove(5))
		w.Next = 5
		setWay(&w, 3*to+from, 0, procMove(5))
		askHandedUp(t, "one of its pid on its way", w, func(w *impl.World) { w.Homes = append(w.Homes, homeAt(to, aProc(5))) })
	})
}

func TestHandedUpWithThingsParked(t *testing.T) {
	parked := []impl.Parked{{At: 1, To: 5, Text: mail(9)[0]}, {At: 0, To: 5, Text: mail(9)[1]}, {At: 1, To: 6, Text: mail(9)[2]}, {At: 1, To: 5, Text: ""}, {At: 2, To: 5, Text: mail(9)[3]}, {At: 1, To: 5, Text: mail(9)[4]}, {At: 1, To: -5}, {At: 1, To: 5, Text: "\x02\x01\x01"}, {At: 1, To: 5, Text: mail(9)[0]}}
	w := handing(0, 1, procMove(5))
	w.Parked = parked
	askHandedUp(t, "parked", w, func(w *impl.World) {
		p := aProc(5)
		p.Box = append(p.Box, mail(9)[0], mail(9)[4], mail(9)[0])
		w.Homes = append(w.Homes, homeAt(1, p))
		w.Parked = []impl.Parked{parked[1], parked[2], parked[4], parked[6]}
	})
	// More than its box takes is lost, and parked no more.
	for count := range mostBox + 1 {
		p := aProc(5)
		p.Box = mail(count)
		w := handing(0, 1, moveBytes(procBytes(p)))
		for i := range mostParked {
			w.Parked = append(w.Parked, impl.Parked{At: 1, To: 5 + i/15, Text: nodeBytes(intNode(i))})
		}
		askHandedUp(t, fmt.Sprint("a box of ", count), w, func(w *impl.World) {
			for i := range min(15, mostBox-count) {
				p.Box = append(p.Box, nodeBytes(intNode(i)))
			}
			w.Homes = append(w.Homes, homeAt(1, p))
			w.Parked = w.Parked[15:]
		})
	}
}

func TestHandedUpWords(t *testing.T) {
	ways(func(from int, to int) {
		third := 3 - from - to
		word := wordBytes(5, aWord)
		for count := range mostBox + 1 {
			w := handing(from, to, word)
			w.Homes = append(w.Homes, homeAt(to, aProc(5)), homeAt(to, aProc(6)))
			w.Homes[2].P.Box = mail(count)
			askHandedUp(t, fmt.Sprint("a home there, a box of ", count), w, func(w *impl.World) {
				if count < mostBox {
					w.Homes[2].P.Box = append(mail(count), aWord)
				}
			})
		}
		for _, there := range []int{from, third} {
			number := 3*to + there
			w := handing(from, to, word)
			w.Homes = append(w.Homes, homeAt(there, aProc(5)))
			askHandedUp(t, "a home elsewhere", w, func(w *impl.World) { addMail(w, number, word) })
			w.Parked = make([]impl.Parked, mostParked)
			askHandedUp(t, "a home elsewhere, much is parked", w, func(w *impl.World) { addMail(w, number, word) })
			for _, full := range []func(w *impl.World, number int){fullWay, lastWay} {
				full(&w, number)
				askHandedUp(t, "a home elsewhere, a full link, much is parked", w, nothingElse)
				w.Parked = w.Parked[:mostParked-1]
				askHandedUp(t, "a home elsewhere, a full link", w, func(w *impl.World) { w.Parked = append(w.Parked, impl.Parked{At: to, To: 5, Text: aWord}) })
				w.Parked = w.Parked[:mostParked]
			}
			w = handing(from, to, word)
			setWay(&w, 3*third+there, 1, "x", procMove(5))
			askHandedUp(t, "on its way elsewhere", w, func(w *impl.World) { addMail(w, number, word) })
		}
		for _, by := range []int{to, third} {
			w := handing(from, to, word)
			setWay(&w, 3*by+to, 1, "x", procMove(5))
			for _, count := range []int{0, 1, mostParked - 1, mostParked} {
				w.Parked = make([]impl.Parked, count)
				askHandedUp(t, fmt.Sprint("on its way there, ", count, " parked"), w, func(w *impl.World) {
					if count < mostParked {
						w.Parked = append(w.Parked, impl.Parked{At: to, To: 5, Text: aWord})
					}
				})
			}
		}
		askHandedUp(t, "nowhere", handing(from, to, word), nothingElse)
		for _, pid := range []int{0, lastPid, lastPid + 1, math.MaxInt} {
			askHandedUp(t, "to no pid", handing(from, to, wordBytes(pid, aWord)), nothingElse)
		}
	})
}

// One that is on its way on the very link, behind what is handed up, is still on its way.
func TestHandedUpAheadOfAMove(t *testing.T) {
	w := askersWorld(2, homeAt(0, aProc(2)))
	setWay(&w, 1, 0, wordBytes(5, aWord), procMove(5))
	w.Grams = []impl.Gram{dataGram(0, 1, impl.Piece{Text: wordBytes(5, aWord)}), dataGram(0, 1, impl.Piece{No: 1, Text: procMove(5)})}
	askTurns(t, "the word alone", w, giveOf(0), func(w *impl.World) {
		w.Links[1].Got, w.Took[1] = 1, words(wordBytes(5, aWord))
		w.Parked = []impl.Parked{{At: 1, To: 5, Text: aWord}}
		w.Grams = []impl.Gram{w.Grams[1], ackGram(1, 0, 1)}
	})
	both, codes := impl.WorldRun(w, []impl.Deed{giveOf(0), giveOf(0)})
	if !slices.Equal(codes, []int{0, 0}) || len(both.Homes) != 2 || !sameHome(both.Homes[1], homeAt(1, posted(aProc(5), aWord))) || len(both.Parked) != 0 {
		t.Error("one after the other", codes, toldWorld(both))
	}
	// With both handed up by one gram Got is beyond both when the word is sent on: it is on its way no more, and not at home yet.
	askHandedUp(t, "both at once", handing(0, 1, wordBytes(5, aWord), procMove(5)), func(w *impl.World) { w.Homes = append(w.Homes, homeAt(1, aProc(5))) })
}

// Several by one gram, in their order: what comes first counts for what comes then.
func TestHandedUpOneByOne(t *testing.T) {
	five := func(list ...string) impl.Proc {
		p := aProc(5)
		p.Box = append(p.Box, list...)
		return p
	}
	texts := mail(4)
	w := handing(2, 1, procMove(5), wordBytes(5, texts[0]), wordBytes(5, texts[1]), procMove(6))
	w.Parked = []impl.Parked{{At: 1, To: 6, Text: texts[2]}, {At: 1, To: 5, Text: texts[3]}}
	askHandedUp(t, "a move, words, a move", w, func(w *impl.World) {
		w.Homes = append(w.Homes, homeAt(1, five(texts[3], texts[0], texts[1])), homeAt(1, posted(aProc(6), texts[2])))
		w.Parked = nil
	})
	askHandedUp(t, "the same one twice", handing(2, 1, procMove(5), procMove(5)), func(w *impl.World) { w.Homes = append(w.Homes, homeAt(1, five())) })
	askHandedUp(t, "lost ones among others", handing(2, 1, "x", wordBytes(3, ""), procMove(5), wordBytes(5, texts[0])), func(w *impl.World) { w.Homes = append(w.Homes, homeAt(1, five(texts[0]))) })
	askHandedUp(t, "words to elsewhere", handing(2, 1, wordBytes(2, texts[0]), wordBytes(3, texts[1]), wordBytes(2, texts[2])), func(w *impl.World) {
		w.Homes[1].P = posted(w.Homes[1].P, texts[1])
		addMail(w, 5, wordBytes(2, texts[0]))
		addMail(w, 5, wordBytes(2, texts[2]))
	})
	w = handing(2, 1, wordBytes(2, texts[0]), wordBytes(2, texts[1]), wordBytes(2, texts[2]))
	setLink(&w, 5, aLink(29, 0, 0))
	w.Parked = make([]impl.Parked, mostParked-1)
	askHandedUp(t, "room for one on its way, and for one here", w, func(w *impl.World) {
		addMail(w, 5, wordBytes(2, texts[0]))
		w.Parked = append(w.Parked, impl.Parked{At: 1, To: 2, Text: texts[1]})
	})
	w = handing(2, 1, procMove(5), procMove(6), wordBytes(6, texts[0]))
	w.Homes = append(w.Homes, homesOf(0, 21, 22, 23, 24, 25)...)
	askHandedUp(t, "room for one of two", w, func(w *impl.World) { w.Homes = append(w.Homes, homeAt(1, five())) })
}

// A gram from a place to itself goes by the link from there to there.
func TestHandedUpFromThePlaceItself(t *testing.T) {
	for at := range 3 {
		askHandedUp(t, "a move", handing(at, at, procMove(5)), func(w *impl.World) { w.Homes = append(w.Homes, homeAt(at, aProc(5))) })
		askHandedUp(t, "a word", handing(at, at, wordBytes(3, aWord)), func(w *impl.World) { w.Homes[1].P = posted(w.Homes[1].P, aWord) })
	}
}

// someDeed: one of any kind. Mostly there is something to do it to; in some moods there are more steps, in others the net has more to do.
func (r *aRandom) someDeed(w impl.World, mood int) impl.Deed {
	if r.below(25) == 0 {
		return []impl.Deed{{}, {Kind: 6}, {Kind: 1, A: -1}, stepOf(1, 51), {Kind: 3, B: 1}, showOf(7, 0), stepOf(0, 0), loseOf(12), copyGram(13)}[r.below(9)]
	}
	steps := []int{7, 14, 3}[mood%3]
	switch kind := r.below(20); {
	case kind < steps:
		return stepOf(r.somePid(w), []int{0, 5, 20, mostMore, mostMore}[r.below(5)])
	case len(w.Grams) == 0 || r.below(3) == 0:
		return r.someShow(w)
	}
	at := r.below(len(w.Grams) + r.below(2))
	switch r.below(8) {
	case 0:
		return copyGram(at)
	case 1:
		return loseOf(at)
	}
	return giveOf(at)
}

// somePid: mostly one of whom there is a home, and who is not over.
func (r *aRandom) somePid(w impl.World) int {
	pid := 1 + r.below(min(w.Next, 9))
	for range 3 {
		if len(w.Homes) > 0 {
			p := w.Homes[r.below(len(w.Homes))].P
			if pid = p.Pid; p.M.State == impl.MsRun || p.M.State == impl.MsAsk {
				break
			}
		}
	}
	return pid
}

// someShow: mostly of a link on which there is something to show.
func (r *aRandom) someShow(w impl.World) impl.Deed {
	from, to := r.below(w.Places), r.below(w.Places)
	for range 6 {
		if from != to && len(w.Links[w.Places*from+to].Queue) > 0 {
			break
		}
		from, to = r.below(w.Places), r.below(w.Places)
	}
	return showOf(from, to)
}

// livelyPrograms: such as spawn, send, wait and go about, so that all that may happen does.
func livelyPrograms() []string {
	return []string{
		"(define (pong n) (if (= n 0) (print (quote over)) (let who (recv) (do (send who n) (pong (- n 1)))))) (let a (spawn (fn () (do (go 1) (pong 3)))) (do (send a (self)) (print (recv)) (send a (self)) (print (recv))))",
		"(define (tour l) (if (null? l) 0 (do (print (car l)) (go (car l)) (tour (cdr l))))) (do (spawn (fn () (tour (quote (1 2 0 1))))) (spawn (fn () (tour (quote (2 1 0))))) (tour (quote (1 2 0 2 1 0 1))))",
		"(define (many n) (if (= n 0) (recv) (do (spawn (fn () (do (go 1) (print n) (recv)))) (many (- n 1))))) (many 12)",
		"(define (flood w n) (if (= n 0) 0 (do (send w n) (flood w (- n 1))))) (let a (spawn (fn () (do (go 1) (recv) (go 0) (print (recv)) (recv)))) (flood a 70))",
		"(define (back n) (do (go 1) (go 0) (if (= n 0) (recv) (back (- n 1))))) (define (flood w n) (if (= n 0) 0 (do (send w n) (flood w (- n 1))))) (let a (spawn (fn () (back 15))) (flood a 60))",
		"(define (on n) (do (go 0) (go 1) (go 2) (on n))) (define (tell n) (do (send n (self)) (tell n))) (let a (spawn (fn () (on 1))) (do (spawn (fn () (do (go 1) (tell a)))) (tell a)))",
		"(let a (spawn (fn () (let f (recv) (do (go 1) (f (recv)))))) (do (send a (fn (x) (print (cons x x)))) (send a (quote (b c)))))",
		"(define (grow l) (do (go 1) (go 0) (grow (cons (quote x) l)))) (grow ())",
		"(let me (self) (do (spawn (fn () (do (go 1) (send me (callcc (fn (k) k)))))) (print (recv)) (go 1) (print 2)))",
		// These go about and talk without end.
		"(define (roam a) (do (go 1) (send a (self)) (go 0) (send a 1) (roam a))) (define (take) (do (recv) (go 1) (recv) (go 0) (take))) (let me (self) (do (spawn (fn () (roam me))) (spawn (fn () (roam me))) (take)))",
		"(define (roam a) (do (go 2) (send a (self)) (go 1) (send a 1) (go 0) (roam a))) (define (take) (do (go 1) (recv) (go 2) (take))) (let me (self) (do (spawn (fn () (roam me))) (spawn (fn () (roam me))) (take)))",
		"(define (echo) (let m (recv) (do (send m (self)) (echo)))) (let a (spawn (fn () (do (go 1) (echo)))) (do (send a (self)) (send a a) (send (self) a) (echo)))",
		"(define (breed) (do (spawn (fn () (do (go 1) (breed)))) (go 0) (breed))) (breed)",
	}
}

// promiseTexts: the lively ones, and others that were asked about in other chapters.
func promiseTexts() []string {
	list := livelyPrograms()
	for _, x := range slices.Concat(talkers(), programsThatDoNotEnd(), programsThatEnd()[:6]) {
		list = append(list, x.text)
	}
	return append(list, endless, growing)
}

// A tally counts what was seen.
type tally map[string]int

func (n tally) least(t *testing.T, most map[string]int) {
	t.Helper()
	for what, count := range most {
		if n[what] < count {
			t.Errorf("%s was seen %d times alone: %v", what, n[what], n)
		}
	}
}

// see counts by the kind of the deed and its code, and what became of the world.
func (n tally) see(before impl.World, d impl.Deed, after impl.World, code int) {
	kind := "none"
	if d.Kind >= 1 && d.Kind <= 5 {
		kind = words("step", "show", "give", "copy", "lose")[d.Kind-1]
	}
	n[fmt.Sprint(kind, " ", code)]++
	if code != isDone {
		return
	}
	switch {
	case len(after.Parked) > len(before.Parked):
		n["parked, "+kind]++
	case len(after.Parked) < len(before.Parked):
		n["parked no more"]++
	}
	if d.Kind == 3 && len(after.Homes) > len(before.Homes) {
		n["came"]++
	}
	for number := range after.Took {
		switch up := len(after.Took[number]) - len(before.Took[number]); {
		case up > 1:
			n["several at once"]++
		case up == 1:
			n["one"]++
		}
		if d.Kind == 3 && len(after.Gave[number]) > len(before.Gave[number]) {
			n["sent on"]++
		}
	}
}

func isBeginning(a []string, b []string) bool { return len(a) <= len(b) && slices.Equal(a, b[:len(a)]) }

// askWays: what was handed up on a link is what was handed in on it, from the beginning on.
func askWays(t *testing.T, why string, w impl.World) {
	t.Helper()
	for number := range w.Gave {
		if !isBeginning(w.Took[number], w.Gave[number]) {
			t.Errorf("%s: on link %d was handed up %.300q, and in %.300q", why, number, w.Took[number], w.Gave[number])
		}
	}
}

// eachDeed: rows of deeds, done to new worlds of many programs and of each number of places, and behind each what WorldDo told of it.
func eachDeed(t *testing.T, seed int, rows int, ask func(why string, before impl.World, d impl.Deed, after impl.World, code int)) {
	t.Helper()
	for i, text := range promiseTexts() {
		for row := range rows {
			// Of the others one row for each number of places is enough.
			if i >= len(livelyPrograms()) && row >= mostPlaces {
				break
			}
			places := 1 + row%mostPlaces
			r := &aRandom{x: uint64(seed + 10*i + row)}
			w := programWorld(t, places, text)
			for step := range 260 {
				d := r.someDeed(w, row+step/65)
				next, code := impl.WorldDo(w, d)
				ask(fmt.Sprint(text, ", of ", places, ", deed ", step, ", ", d), w, d, next, code)
				if code != isBad {
					w = next
				}
			}
			if t.Failed() {
				return
			}
		}
	}
}

// Promise 14, and what follows from it.
func TestDeedsKeepToThePromise(t *testing.T) {
	t.Parallel()
	n := tally{}
	eachDeed(t, 1400, 9, func(why string, before impl.World, d impl.Deed, after impl.World, code int) {
		askKeepsToThePromise(t, why, before, d, after, code)
		askWays(t, why, after)
		n.see(before, d, after, code)
	})
	n.least(t, map[string]int{
		"step 0": 3000, "step 2": 500, "step 3": 1000, "step 4": 1000, "step 5": 200, "none 1": 200,
		"show 0": 800, "show 2": 1000, "show 3": 1000, "show 5": 200, "give 0": 2000, "give 2": 100,
		"copy 0": 200, "copy 2": 100, "copy 5": 80, "lose 0": 300, "lose 2": 100,
		"parked, step": 80, "parked, give": 8, "parked no more": 12, "came": 150, "several at once": 40, "one": 250, "sent on": 25,
	})
}

// The same deeds, held against the rules.
func TestDeedsByRules(t *testing.T) {
	t.Parallel()
	n := tally{}
	for i, text := range livelyPrograms() {
		for seed := range 4 {
			r := &aRandom{x: uint64(1450 + 10*i + seed)}
			w := programWorld(t, []int{2, 3, 3, 1}[seed], text)
			for step := range 200 {
				d := r.someDeed(w, seed+step/50)
				want, code := deedDoneByRules(w, d)
				next, told := impl.WorldDo(w, d)
				if told != code || !sameWorld(next, want) {
					t.Fatalf("%s, deed %d: %+v tells %d, %s\nnot %d, %s", text, step, d, told, toldWorld(next), code, toldWorld(want))
				}
				if code == isBad {
					next = w
				}
				n.see(w, d, next, code)
				w = next
			}
		}
	}
	n.least(t, map[string]int{"step 0": 500, "show 0": 300, "give 0": 500, "parked, step": 3, "parked, give": 3, "parked no more": 3, "came": 50, "several at once": 20, "sent on": 10})
}

// someBusy: a world that is right, with processes that ask for all sorts of things, things on all ways, grams and parked things, near the limits or not.
func (r *aRandom) someBusy() impl.World {
	w := r.somePlaced().w
	w.Code, _ = askingFor(14)
	w.Next = []int{5, 9, 12, lastPid - 1, lastPid}[r.below(5)]
	place := func() int { return r.below(w.Places) }
	for range r.below(4) {
		if len(w.Homes) == mostProcs {
			break
		}
		p := r.someAskerOf(w)
		w.Homes = slices.Insert(w.Homes, r.below(len(w.Homes)+1), homeAt(place(), p))
	}
	for number, l := range w.Links {
		switch r.below(60) {
		case 0, 1, 2, 3, 4, 5, 6:
			fullWay(&w, number)
			continue
		case 7:
			lastWay(&w, number)
			continue
		}
		for no := l.Got + 1; no < min(l.Got+4, l.Sent); no++ {
			if r.below(2) == 0 {
				w.Links[number].Held = append(w.Links[number].Held, impl.Piece{No: no, Text: w.Gave[number][no]})
			}
		}
	}
	for range []int{0, 1, 3, 6, mostGrams - 1, mostGrams}[r.below(6)] {
		w.Grams = append(w.Grams, r.someGramOf(w))
	}
	for range []int{0, 2, 5, mostParked - 1, mostParked}[r.below(5)] {
		w.Parked = append(w.Parked, impl.Parked{At: place(), To: 1 + r.below(9), Text: []string{aWord, "\x01\x01", "", "x"}[r.below(4)]})
	}
	return w
}

func (r *aRandom) someAskerOf(w impl.World) impl.Proc {
	pid := 1 + r.below(9)
	p := asker(pid, 14)
	switch r.below(6) {
	case 0, 1:
		p = asker(pid, 15, pidNode(r.below(10)), symNode("word"))
	case 2:
		p = asker(pid, 16)
	case 3:
		p = asker(pid, 17, funNode(8*r.below(5), r.below(3)))
	case 4, 5:
		p = asker(pid, 19, intNode(r.below(4)))
	}
	p.Box = mail([]int{0, 1, mostBox - 1, mostBox}[r.below(4)])
	if r.below(6) == 0 {
		p.M = filled(p.M, r.below(4))
	}
	return p
}

// someGramOf: mostly one that the link may take now.
func (r *aRandom) someGramOf(w impl.World) impl.Gram {
	from, to := r.below(w.Places), r.below(w.Places)
	number := w.Places*from + to
	l := w.Links[number]
	if r.below(4) == 0 {
		return ackGram(to, from, min(max(0, l.Got-1+r.below(3)), lastNo))
	}
	no := max(0, l.Got-1+r.below(4))
	if no >= l.Sent {
		return dataGram(from, to, impl.Piece{No: min(no, lastNo), Text: "x"})
	}
	return dataGram(from, to, impl.Piece{No: no, Text: w.Gave[number][no]})
}

func TestAnyWorldsAndDeedsByRules(t *testing.T) {
	t.Parallel()
	r := &aRandom{x: 1499}
	n := tally{}
	for range 1500 {
		w := r.someBusy()
		if !impl.WorldOk(w) {
			t.Fatal("it is not right", toldWorld(w))
		}
		for mood := range 4 {
			d := r.someDeed(w, mood)
			want, code := deedDoneByRules(w, d)
			next, told := impl.WorldDo(w, d)
			if told != code || !sameWorld(next, want) {
				t.Fatalf("%+v of %s\ntells %d, %s\nnot %d, %s", d, toldWorld(w), told, toldWorld(next), code, toldWorld(want))
			}
			askKeepsToThePromise(t, "any", w, d, next, code)
			if code == isBad {
				next = w
			}
			n.see(w, d, next, code)
			w = next
		}
	}
	n.least(t, map[string]int{"step 0": 300, "step 2": 50, "step 3": 10, "step 4": 10, "step 5": 30, "show 0": 100, "show 5": 20, "give 0": 500, "copy 0": 50, "copy 5": 5, "lose 0": 50, "parked, step": 5, "parked, give": 5, "parked no more": 5, "came": 50, "several at once": 30, "sent on": 10})
}

// A story from its beginning to its end, told by hand.
func TestAStory(t *testing.T) {
	w := programWorld(t, 2, "(let a (spawn (fn () (do (go 1) (print (recv)) (send (recv) 9)))) (do (send a (quote hello)) (send a (self)) (print (recv))))")
	for i, x := range []struct {
		d    impl.Deed
		code int
	}{
		{stepOf(1, mostMore), isDone}, // 1 spawns 2
		{stepOf(2, mostMore), isDone}, // 2 goes to 1
		{stepOf(2, mostMore), isNone},
		{stepOf(1, mostMore), isDone}, // hello follows it
		{stepOf(1, mostMore), isDone}, // and who 1 is
		{stepOf(1, mostMore), isDone}, // it comes to wait
		{stepOf(1, mostMore), isWait},
		{giveOf(0), isNone},
		{showOf(1, 0), isWait},
		{showOf(0, 1), isDone}, // three grams
		{giveOf(2), isDone},    // the last one first: it is held, and told of
		{copyGram(0), isDone},
		{giveOf(1), isDone}, // hello: held
		{loseOf(0), isDone}, // the first one is lost, but for its copy
		{giveOf(1), isDone}, // its copy: all three are handed up
		{stepOf(2, mostMore), isDone},
		{stepOf(2, mostMore), isDone},
		{stepOf(2, mostMore), isEnd},
		{showOf(1, 0), isDone},
		{giveOf(3), isDone},
		{stepOf(1, mostMore), isDone},
		{stepOf(1, 0), isEnd},
	} {
		code := 0
		if w, code = impl.WorldDo(w, x.d); code != x.code {
			t.Fatalf("deed %d, %+v, tells %d, not %d: %s", i, x.d, code, x.code, toldWorld(w))
		}
	}
	if !slices.Equal(w.Homes[0].P.Out, words("9")) || !slices.Equal(w.Homes[1].P.Out, words("hello")) || w.Homes[1].At != 1 || len(w.Took[1]) != 3 || len(w.Took[2]) != 1 {
		t.Error("it ends otherwise", toldWorld(w), w.Homes[0].P.Out, w.Homes[1].P.Out)
	}
	if !slices.Equal(w.Grams, []impl.Gram{ackGram(1, 0, 0), ackGram(1, 0, 0), ackGram(1, 0, 3), ackGram(0, 1, 1)}) {
		t.Error("what is on its way", w.Grams)
	}
}

// ranByWorldDo: what a run is to tell.
func ranByWorldDo(w impl.World, list []impl.Deed) (impl.World, []int) {
	var codes []int
	for _, d := range list {
		next, code := impl.WorldDo(w, d)
		if code == impl.WdDone {
			w = next
		}
		codes = append(codes, code)
	}
	return w, codes
}

func askRunOfDeeds(t *testing.T, why string, w impl.World, list []impl.Deed, want impl.World, wantCodes []int) {
	t.Helper()
	got, codes := impl.WorldRun(w, list)
	if !slices.Equal(codes, wantCodes) || !sameWorld(got, want) {
		t.Errorf("%s: a run of %d tells %v, %s\nnot %v, %s", why, len(list), codes, toldWorld(got), wantCodes, toldWorld(want))
	}
}

// someRow: deeds that were worth doing when they came, and others.
func (r *aRandom) someRow(w impl.World, count int) []impl.Deed {
	var list []impl.Deed
	for i := range count {
		d := r.someDeed(w, i/30)
		list = append(list, d)
		if next, code := impl.WorldDo(w, d); code == impl.WdDone {
			w = next
		}
	}
	return list
}

func TestRunsOfDeeds(t *testing.T) {
	t.Parallel()
	codes := map[int]int{}
	for i, text := range livelyPrograms() {
		for places := 1; places <= mostPlaces; places++ {
			r := &aRandom{x: uint64(1700 + 10*i + places)}
			w := programWorld(t, places, text)
			askRunOfDeeds(t, "none", w, nil, w, nil)
			for _, count := range []int{1, 2, 40, mostDeeds} {
				list := r.someRow(w, count)
				want, wantCodes := ranByWorldDo(w, list)
				askRunOfDeeds(t, text, w, list, want, wantCodes)
				for _, code := range wantCodes {
					codes[code]++
				}
				// In two runs they come to the same as in one.
				half, first := impl.WorldRun(w, list[:count/2])
				askRunOfDeeds(t, text+", in two", half, list[count/2:], want, wantCodes[len(first):])
			}
		}
	}
	for code := isDone; code <= isFull; code++ {
		if codes[code] < 10 {
			t.Error("so often was a code told", codes)
		}
	}
}

func TestRunsOfAsManyAsThereMayBe(t *testing.T) {
	w := programWorld(t, 2, endless)
	for _, count := range []int{0, 1, mostDeeds - 1, mostDeeds} {
		list := slices.Repeat([]impl.Deed{stepOf(1, 0)}, count)
		got, codes := impl.WorldRun(w, list)
		p, _ := steppedTimes(w.Code, w.Homes[0].P, 2, count)
		if len(codes) != count || slices.Max(append(codes, 0)) != 0 || !sameProc(got.Homes[0].P, p) {
			t.Error("a run of", count, "tells", codes)
		}
	}
	for _, count := range []int{mostDeeds + 1, mostDeeds + 2, 2 * mostDeeds, 20000} {
		askRunOfDeeds(t, "too many", w, slices.Repeat([]impl.Deed{stepOf(1, 0)}, count), w, nil)
		askRunOfDeeds(t, "too many that are bad", w, make([]impl.Deed, count), w, nil)
	}
	// Bad ones count, too, and so do refused ones.
	askRunOfDeeds(t, "all bad", w, make([]impl.Deed, mostDeeds), w, slices.Repeat([]int{isBad}, mostDeeds))
	askRunOfDeeds(t, "all refused", w, slices.Repeat([]impl.Deed{giveOf(0)}, mostDeeds), w, slices.Repeat([]int{isNone}, mostDeeds))
}

// What is refused, or bad, leaves the world as it was for what comes behind it.
func TestRunsWithRefusedOnes(t *testing.T) {
	w := programWorld(t, 2, "(do (print 1) (go 1) (print 2))")
	plain := []impl.Deed{stepOf(1, mostMore), showOf(0, 1), giveOf(0), stepOf(1, mostMore)}
	want, codes := impl.WorldRun(w, plain)
	if !slices.Equal(codes, []int{0, 0, 0, 0}) || !slices.Equal(want.Homes[0].P.Out, words("1", "2")) {
		t.Fatal("plain", codes, toldWorld(want))
	}
	for at := range len(plain) + 1 {
		for i, d := range []impl.Deed{{}, {Kind: 6}, stepOf(1, 51), {Kind: 2, A: -1}, {Kind: 5, B: 1}, stepOf(2, 0), showOf(1, 1), giveOf(12), copyGram(13), loseOf(14)} {
			list := slices.Insert(slices.Clone(plain), at, d)
			code := isNone
			if i < 5 {
				code = isBad
			}
			askRunOfDeeds(t, fmt.Sprintf("%+v at %d", d, at), w, list, want, slices.Insert([]int{0, 0, 0, 0}, at, code))
		}
	}
}

func TestRunsOfWhatIsNotRight(t *testing.T) {
	t.Parallel()
	list := slices.Concat(goodDeeds(), badDeeds())
	askRunOfDeeds(t, "zero", impl.World{}, list, impl.World{}, nil)
	asked := 0
	eachTurned(func(why string, w impl.World, right bool) {
		if right {
			return
		}
		askRunOfDeeds(t, why, w, [][]impl.Deed{list, list[:1], nil, make([]impl.Deed, mostDeeds+1)}[asked%4], w, nil)
		asked++
	})
	if asked < 1000 {
		t.Error("so few were asked", asked)
	}
}

// runsToAsk: worlds and rows of deeds, right and not right.
func runsToAsk(t *testing.T) (worlds []impl.World, rows [][]impl.Deed) {
	r := &aRandom{x: 1801}
	add := func(w impl.World, list []impl.Deed) { worlds, rows = append(worlds, w), append(rows, list) }
	for _, text := range livelyPrograms() {
		w := programWorld(t, 3, text)
		add(w, r.someRow(w, 120))
	}
	for places := 1; places <= mostPlaces; places++ {
		full := fullWorld(places)
		// As full as it was, but with less to hold against each other.
		setLink(&full, places*places-1, aLink(530, 500, 510, 511, 513))
		for _, w := range []impl.World{bareWorld(places), busyWorld(places), full} {
			add(w, slices.Concat(goodDeeds(), badDeeds()))
			w.Next = 0
			add(w, goodDeeds())
		}
	}
	w := programWorld(t, 2, endless)
	add(w, nil)
	add(w, make([]impl.Deed, mostDeeds+1))
	add(impl.World{}, goodDeeds())
	return worlds, rows
}

// When a run has answered nothing of it goes on: no goroutine of it is there.
func TestRunsLeaveNothingBehind(t *testing.T) {
	worlds, rows := runsToAsk(t)
	// What is left waiting in a bubble makes it panic when all others have ended.
	for i, w := range worlds {
		synctest.Test(t, func(t *testing.T) { impl.WorldRun(w, rows[i]) })
	}
	before := runtime.NumGoroutine()
	for range 5 {
		for i, w := range worlds {
			impl.WorldRun(w, rows[i])
			impl.WorldDo(w, stepOf(1, mostMore))
		}
	}
	// One that has told that it ends may take a moment to do so.
	for range 2000 {
		if runtime.NumGoroutine() <= before {
			break
		}
		time.Sleep(time.Millisecond)
	}
	if after := runtime.NumGoroutine(); after > before {
		t.Errorf("there were %d goroutines, and then %d", before, after)
	}
	askNothingGoesOn(t)
}

// A run answers the same however often it is asked, by one or by many at once.
func TestRunsAnswerTheSame(t *testing.T) {
	worlds, rows := runsToAsk(t)
	for i, w := range worlds {
		want, codes := impl.WorldRun(w, rows[i])
		for range 5 {
			askRunOfDeeds(t, "again", w, rows[i], want, codes)
		}
		var all sync.WaitGroup
		for range 8 {
			all.Go(func() { askRunOfDeeds(t, "at once with others", w, rows[i], want, codes) })
		}
		all.Wait()
	}
	for _, procs := range []int{1, 2, 8} {
		was := runtime.GOMAXPROCS(procs)
		for i, w := range worlds {
			want, codes := ranByWorldDo(w, rows[i])
			if len(rows[i]) > mostDeeds || !impl.WorldOk(w) {
				codes = nil
			}
			askRunOfDeeds(t, fmt.Sprint(procs, " at a time"), w, rows[i], want, codes)
		}
		runtime.GOMAXPROCS(was)
	}
}

// askDeedMemory: nothing is written into a world, nor into a row of deeds, nor into the room behind them; and no list of an answer shares memory with them, with another list of it, or with another answer.
func askDeedMemory(t *testing.T, why string, w impl.World, list []impl.Deed) {
	t.Helper()
	w, list = roomyWorld(w), withSpare(list, impl.Deed{Kind: 1, A: 1}, impl.Deed{Kind: 3})
	row := slices.Clone(list[:cap(list)])
	before := memoryTold(w)
	all := slices.Concat(spansOf("world", reflect.ValueOf(w)), spansOf("deeds", reflect.ValueOf(list)))
	// All answers are kept to the end: the memory of one that is gone may be given to another one.
	var worlds []impl.World
	var rows [][]int
	for i := range 2 {
		next, codes := impl.WorldRun(w, list)
		worlds, rows = append(worlds, next), append(rows, codes)
		all = append(all, spansOf(fmt.Sprint("codes ", i), reflect.ValueOf(codes))...)
	}
	for _, d := range list[:min(len(list), 20)] {
		next, _ := impl.WorldDo(w, d)
		worlds = append(worlds, next)
		impl.DeedOk(d)
	}
	for i, next := range worlds {
		all = append(all, spansOf(fmt.Sprint("answer ", i), reflect.ValueOf(next))...)
	}
	if memoryTold(w) != before || !slices.Equal(row, list[:cap(list)]) {
		t.Errorf("%s: an argument was written into, or the room behind it", why)
	}
	if two := shared(all); two != nil {
		t.Errorf("%s: %q share memory", why, two)
	}
	runtime.KeepAlive(worlds)
	runtime.KeepAlive(rows)
	runtime.KeepAlive(w)
	runtime.KeepAlive(list)
}

func TestNothingIsWrittenByDeeds(t *testing.T) {
	t.Parallel()
	worlds, rows := runsToAsk(t)
	for i, w := range worlds {
		askDeedMemory(t, fmt.Sprint("world ", i), w, rows[i])
	}
	r := &aRandom{x: 1802}
	for i := range 60 {
		w := r.someBusy()
		askDeedMemory(t, fmt.Sprint("any ", i), w, r.someRow(w, 12))
		r.breakWorld(&w)
		askDeedMemory(t, fmt.Sprint("broken ", i), w, goodDeeds())
	}
	for why, w := range map[string]impl.World{
		"sent at home":    sending(0, homesOf(0, 5)...),
		"sent elsewhere":  sending(0, homesOf(1, 5)...),
		"sent to itself":  sending(0),
		"spawned":         spawning(1, 3),
		"too many":        spawning(1, 8),
		"gone":            leaving(0, 1),
		"handed up":       handing(0, 1, procMove(5), wordBytes(5, aWord), wordBytes(2, aWord)),
		"handed up alone": handing(0, 1, wordBytes(3, aWord)),
	} {
		askDeedMemory(t, why, w, []impl.Deed{stepOf(1, 0), stepOf(5, 0), giveOf(0), showOf(0, 1), copyGram(0), loseOf(0)})
	}
}

// What was answered stays as it is, whatever is done to what it was made of, and to what was made of it.
func TestWorldsThatWereAnsweredStay(t *testing.T) {
	for _, text := range livelyPrograms() {
		r := &aRandom{x: 1803}
		w := programWorld(t, 3, text)
		var worlds, kept []impl.World
		for range 120 {
			next, code := impl.WorldDo(w, r.someDeed(w, 0))
			if code == isDone {
				worlds, kept = append(worlds, next), append(kept, cloneWorld(next))
				w = next
			}
		}
		for i := range worlds {
			if !sameWorld(worlds[i], kept[i]) {
				t.Fatalf("%s: world %d was turned later", text, i)
			}
		}
	}
}
