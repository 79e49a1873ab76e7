package tests

import (
	"fmt"
	"math"
	"reflect"
	"runtime"
	"slices"
	"strings"
	"sync"
	"testing"

	"loop.example/g00189/impl"
)

// A verdict is what the three judges tell of a world.
type verdict struct {
	order bool
	once  bool
	queue bool
}

func fair() verdict { return verdict{true, true, true} }

func noOrder() verdict { return verdict{false, true, true} }

func notOnce() verdict { return verdict{true, false, true} }

func noQueue() verdict { return verdict{true, true, false} }

func judged(w impl.World) verdict {
	return verdict{impl.JudgeOrder(w), impl.JudgeOnce(w), impl.JudgeQueue(w)}
}

// verdictByRules: what is to be told, as the chapter has it, thing by thing.
func verdictByRules(w impl.World) verdict {
	if !worldByRules(w) {
		return verdict{}
	}
	return verdict{orderByRules(w), onceByRules(w), queueByRules(w)}
}

func orderByRules(w impl.World) bool {
	for number, took := range w.Took {
		for no, s := range took {
			if s != w.Gave[number][no] {
				return false
			}
		}
	}
	return true
}

func onceByRules(w impl.World) bool {
	times := map[int]int{}
	for _, h := range w.Homes {
		times[h.P.Pid]++
	}
	for number, gave := range w.Gave {
		for no, s := range gave {
			if no < w.Links[number].Got {
				continue
			}
			if m := mailByRules(s); m.ok && m.kind == 2 {
				if p, ok := procUnpackedByRules(w.Code, m.text); ok {
					times[p.Pid]++
				}
			}
		}
	}
	for pid, count := range times {
		if pid > 0 && pid < w.Next && count > 1 {
			return false
		}
	}
	return true
}

func queueByRules(w impl.World) bool {
	for number, l := range w.Links {
		gave := w.Gave[number]
		for back := 1; back <= len(l.Queue); back++ {
			if l.Queue[len(l.Queue)-back] != gave[len(gave)-back] {
				return false
			}
		}
		for _, p := range l.Held {
			if p.Text != gave[p.No] {
				return false
			}
		}
	}
	return true
}

// askVerdict asks all four judges, and the rules, too.
func askVerdict(t *testing.T, why string, w impl.World, want verdict) {
	t.Helper()
	if got := judged(w); got != want {
		t.Errorf("%s: the judges tell %+v, not %+v, of %s", why, got, want, toldWorld(w))
	}
	if all := impl.JudgeAll(w); all != (want == fair()) {
		t.Errorf("%s: JudgeAll tells %v, where the three are to tell %+v, of %s", why, all, want, toldWorld(w))
	}
	if by := verdictByRules(w); by != want {
		t.Errorf("%s: the rules tell %+v, not %+v, of %s", why, by, want, toldWorld(w))
	}
}

func askPrints(t *testing.T, why string, w impl.World, pid int, want []string) {
	t.Helper()
	if got := impl.Prints(w, pid); !slices.Equal(got, want) {
		t.Errorf("%s: Prints of %d tells %.300q, not %.300q, of %s", why, pid, got, want, toldWorld(w))
	}
}

// putWay: on that link this was handed in, so many of it were told of, so many handed up, and these numbers are held.
func putWay(w *impl.World, number int, acked int, got int, held []int, gave ...string) {
	l := impl.Link{Sent: len(gave), Acked: acked, Got: got, Queue: slices.Clone(gave[acked:])}
	for _, no := range held {
		l.Held = append(l.Held, impl.Piece{No: no, Text: gave[no]})
	}
	w.Links[number], w.Gave[number], w.Took[number] = l, slices.Clone(gave), slices.Clone(gave[:got])
}

// fairWorld: one with something of all, of which all that is judged holds.
func fairWorld(places int) impl.World {
	w := busyWorld(places)
	last := places*places - 1
	for number := range w.Links {
		gave := words(wordBytes(1, aWord), payload(number), procMove(1), wordBytes(2, aWord), payload(9), "", wordBytes(7, aWord))
		if number == 0 {
			gave = append(gave, procMove(5))
		}
		if number == last {
			gave = append(gave, procMove(4))
		}
		putWay(&w, number, 1, 3, []int{4, 6}, gave...)
	}
	return w
}

// eachLink: each link of worlds of each number of places.
func eachLink(ask func(why string, places int, number int)) {
	for places := 1; places <= mostPlaces; places++ {
		for number := range places * places {
			ask(fmt.Sprint("link ", number, " of ", places, " places"), places, number)
		}
	}
}

// eachTwoLinks: each two of the links of one world, either way round.
func eachTwoLinks(ask func(places int, first int, second int)) {
	for places := 2; places <= mostPlaces; places++ {
		for first := range places * places {
			for second := range places * places {
				if first != second {
					ask(places, first, second)
				}
			}
		}
	}
}

// turnedWorld: the world of which one thing was turned; the first one stays as it is.
func turnedWorld(w impl.World, turn func(w *impl.World)) impl.World {
	w = cloneWorld(w)
	turn(&w)
	return w
}

func TestJudgesOfFairWorlds(t *testing.T) {
	for places := 1; places <= mostPlaces; places++ {
		askVerdict(t, "bare", bareWorld(places), fair())
		askVerdict(t, "fair", fairWorld(places), fair())
		for _, x := range allPrograms() {
			askVerdict(t, x.text, programWorld(t, places, x.text), fair())
		}
	}
}

// Promise 15, behind each deed.
func TestWhateverIsDoneToNewWorlds(t *testing.T) {
	t.Parallel()
	n := tally{}
	eachDeed(t, 2100, 6, func(why string, before impl.World, d impl.Deed, after impl.World, code int) {
		// What is no deed leaves no world.
		if code == isBad {
			after = before
		}
		askFairBehind(t, why, before, after)
		n.see(before, d, after, code)
		n.seeWays(after)
	})
	n.least(t, map[string]int{
		"step 0": 3000, "show 0": 800, "give 0": 1500, "copy 0": 150, "lose 0": 200, "none 1": 200, "step 5": 100,
		"came": 100, "several at once": 30, "one": 150, "sent on": 15, "parked, step": 50,
		"held": 500, "held with a gap": 100, "told of": 2000, "on its way": 5000, "two on one way": 300, "printed": 5000,
	})
}

// askFairBehind: all judges tell so, and by the rules it is so; and what was handed in and up before is so still.
func askFairBehind(t *testing.T, why string, before impl.World, after impl.World) {
	t.Helper()
	askVerdict(t, why, after, fair())
	askWays(t, why, after)
	for number := range after.Links {
		if !isBeginning(before.Gave[number], after.Gave[number]) || !isBeginning(before.Took[number], after.Took[number]) {
			t.Errorf("%s: on link %d what was handed in or up before is turned", why, number)
		}
	}
	for pid := range min(after.Next, 40) {
		want := []string(nil)
		if home := homeByRules(after, pid); home != -1 {
			want = after.Homes[home].P.Out
		}
		askPrints(t, why, after, pid, want)
	}
}

// seeWays counts what there is to judge.
func (n tally) seeWays(w impl.World) {
	for number, l := range w.Links {
		moves := 0
		for _, s := range w.Gave[number][l.Got:] {
			if mailByRules(s).kind == 2 {
				moves++
			}
		}
		for what, seen := range map[string]bool{
			"held":            len(l.Held) > 0,
			"held with a gap": len(l.Held) > 0 && l.Held[len(l.Held)-1].No > l.Got+len(l.Held),
			"told of":         l.Acked > 0,
			"on its way":      moves > 0,
			"two on one way":  moves > 1,
		} {
			if seen {
				n[what]++
			}
		}
	}
	if slices.ContainsFunc(w.Homes, func(h impl.Home) bool { return len(h.P.Out) > 0 }) {
		n["printed"]++
	}
}

// Promise 15, by runs of as many deeds as there may be.
func TestWhateverIsDoneByRuns(t *testing.T) {
	t.Parallel()
	for i, text := range livelyPrograms() {
		for places := 1; places <= mostPlaces; places++ {
			r := &aRandom{x: uint64(2300 + 10*i + places)}
			w := programWorld(t, places, text)
			for range 4 {
				next, codes := impl.WorldRun(w, r.someRow(w, mostDeeds))
				if len(codes) != mostDeeds {
					t.Fatal("it did not run", codes)
				}
				askFairBehind(t, fmt.Sprint(text, ", of ", places), w, next)
				w = next
			}
		}
	}
}

// What one says to another comes up once, and in order, whatever the net does with it: it prints what it hears.
func TestWhatIsSaidIsHeardOnceAndInOrder(t *testing.T) {
	t.Parallel()
	const count = 15
	want := []string{}
	for i := range count {
		want = append(want, fmt.Sprint(i))
	}
	all := 0
	for seed := range 60 {
		for places := 1; places <= mostPlaces; places++ {
			r := &aRandom{x: uint64(2500 + 10*seed + places)}
			w := programWorld(t, places, fmt.Sprintf("(define (say w n) (if (= n %d) 0 (do (send w n) (say w (+ n 1))))) (define (hear) (do (print (recv)) (hear))) (let a (spawn (fn () (do (go %d) (hear)))) (say a 0))", count, places-1))
			for step := range 400 {
				if next, code := impl.WorldDo(w, r.someDeed(w, seed+step/100)); code == isDone {
					w = next
				}
				if heard := impl.Prints(w, 2); !isBeginning(heard, want) {
					t.Fatalf("with %d places it heard %q", places, heard)
				}
			}
			if slices.Equal(impl.Prints(w, 2), want) {
				all++
			}
			if len(impl.Prints(w, 1)) > 0 {
				t.Error("the one that speaks prints", impl.Prints(w, 1))
			}
		}
	}
	if all < 40 {
		t.Error("so few heard all of it", all)
	}
}

// soundBut: things that make a world not right, and leave all that is judged as it was.
func soundBut() map[string]func(w *impl.World) {
	return map[string]func(w *impl.World){
		"no next":                 func(w *impl.World) { w.Next = 0 },
		"next below 0":            func(w *impl.World) { w.Next = -1 },
		"next too high":           func(w *impl.World) { w.Next = lastPid + 1 },
		"next far too high":       func(w *impl.World) { w.Next = math.MaxInt },
		"no places":               func(w *impl.World) { w.Places = 0 },
		"another number of them":  func(w *impl.World) { w.Places++ },
		"far too many places":     func(w *impl.World) { w.Places = math.MaxInt },
		"too many grams":          func(w *impl.World) { w.Grams = gramsOf(mostGrams+1, impl.Gram{Kind: 1}) },
		"a gram of no kind":       func(w *impl.World) { w.Grams[0].Kind = 3 },
		"a gram to no place":      func(w *impl.World) { w.Grams[2].To = w.Places },
		"told of with a text":     func(w *impl.World) { w.Grams[2].P.Text = "x" },
		"too much parked":         func(w *impl.World) { w.Parked = make([]impl.Parked, mostParked+1) },
		"parked at no place":      func(w *impl.World) { w.Parked[1].At = -1 },
		"a home at no place":      func(w *impl.World) { w.Homes[3].At = w.Places },
		"a home below all places": func(w *impl.World) { w.Homes[0].At = -1 },
		"a home of no pid":        func(w *impl.World) { w.Homes[2].P.Pid = lastPid + 1 },
		"a home that is not":      func(w *impl.World) { w.Homes[1].P.M.S = 300 },
		"too much printed":        func(w *impl.World) { w.Homes[0].P.Out = printed(41) },
		"no value in a box":       func(w *impl.World) { w.Homes[3].P.Box = words("") },
		"too many homes":          func(w *impl.World) { w.Homes = append(w.Homes, homesOf(0, 21, 22, 23, 24, 25)...) },
		"a code that is not right": func(w *impl.World) {
			w.Code.List = append(slices.Clone(w.Code.List), impl.Instr{Op: 10})
		},
		"one link too many":        func(w *impl.World) { w.Links = append(w.Links, impl.Link{}) },
		"one more handed in on":    func(w *impl.World) { w.Gave = append(w.Gave, nil) },
		"one more handed up on":    func(w *impl.World) { w.Took = append(w.Took, nil) },
		"one more of all":          func(w *impl.World) { *w = withMore(*w) },
		"fewer handed up than Got": func(w *impl.World) { w.Took[0] = w.Took[0][:2] },
		"nothing handed up":        func(w *impl.World) { w.Took[0] = nil },
		"more handed up than Got":  func(w *impl.World) { w.Took[0] = slices.Clone(w.Gave[0][:4]) },
		"fewer sent than given":    func(w *impl.World) { w.Links[0].Sent-- },
		"more sent than given":     func(w *impl.World) { w.Links[0].Sent++ },
		"a shorter queue":          func(w *impl.World) { w.Links[0].Queue = w.Links[0].Queue[1:] },
		"a queue of all":           func(w *impl.World) { w.Links[0].Queue = slices.Clone(w.Gave[0]) },
		"an empty queue":           func(w *impl.World) { w.Links[0].Queue = nil },
		"held the other way round": func(w *impl.World) { slices.Reverse(w.Links[0].Held) },
		"held twice":               func(w *impl.World) { w.Links[0].Held = append(w.Links[0].Held, w.Links[0].Held[1]) },
		"held at Got":              func(w *impl.World) { w.Links[0].Held = []impl.Piece{{No: 3, Text: w.Gave[0][3]}} },
		"held below Got":           func(w *impl.World) { w.Links[0].Held = []impl.Piece{{No: 2, Text: w.Gave[0][2]}} },
		"held beyond the window":   func(w *impl.World) { w.Links[0].Held = []impl.Piece{{No: 7, Text: w.Gave[0][7]}} },
		"told of beyond Got":       func(w *impl.World) { putWay(w, 0, 4, 3, nil, w.Gave[0]...) },
		"Got beyond all": func(w *impl.World) {
			putWay(w, 0, 5, 5, nil, payloads(0, 5)...)
			w.Links[0].Got = 6
		},
		"a long queue": func(w *impl.World) { putWay(w, 0, 0, 0, nil, payloads(0, 31)...) },
		"too many in all": func(w *impl.World) {
			all := payloads(0, lastNo+1)
			putWay(w, 0, lastNo+1, lastNo+1, nil, all...)
		},
	}
}

func withMore(w impl.World) impl.World {
	w.Links, w.Gave, w.Took = append(w.Links, impl.Link{}), append(w.Gave, nil), append(w.Took, nil)
	return w
}

func askNothingJudged(t *testing.T, why string, w impl.World) {
	t.Helper()
	if impl.WorldOk(w) {
		t.Fatalf("%s: it is right: %s", why, toldWorld(w))
	}
	if got := judged(w); got != (verdict{}) || impl.JudgeAll(w) {
		t.Errorf("%s: the judges tell %+v, and all of them %v, of %s", why, got, impl.JudgeAll(w), toldWorld(w))
	}
	for _, pid := range []int{0, 1, 2, 3, 4, 5, 7, 8, lastPid, -1} {
		askPrints(t, why, w, pid, nil)
	}
	for _, h := range w.Homes[:min(len(w.Homes), mostProcs+1)] {
		askPrints(t, why, w, h.P.Pid, nil)
	}
}

func TestJudgesOfWorldsThatAreNotRight(t *testing.T) {
	askNothingJudged(t, "zero", impl.World{})
	for places := 1; places <= mostPlaces; places++ {
		w := fairWorld(places)
		askVerdict(t, "as it is", w, fair())
		askPrints(t, "as it is", w, 7, printed(3))
		for why, turn := range soundBut() {
			askNothingJudged(t, fmt.Sprint(why, ", of ", places), turnedWorld(w, turn))
		}
	}
}

// Worlds of which one thing was turned, at each of its edges.
func TestJudgesOfTurnedWorlds(t *testing.T) {
	t.Parallel()
	right, broken := 0, 0
	for places := 1; places <= mostPlaces; places++ {
		for _, x := range worldTurns() {
			w := fairWorld(places)
			x.turn(&w)
			why := fmt.Sprint(x.why, ", of ", places)
			if !x.right {
				askNothingJudged(t, why, w)
				broken++
				continue
			}
			askVerdict(t, why, w, verdictByRules(w))
			right++
		}
	}
	if right < 500 || broken < 500 {
		t.Error("so many were right, and not right", right, broken)
	}
}

// otherTexts: texts that are not that one, but near to it.
func otherTexts(s string) []string {
	list := words(s+"\x00", "x"+s, "\x00", s+s+"x")
	if len(s) > 0 {
		turned := []byte(s)
		turned[len(s)-1] ^= 1
		list = append(list, "", s[:len(s)-1], s[1:], string(turned))
	}
	return list
}

func TestJudgeOrder(t *testing.T) {
	eachLink(func(why string, places int, number int) {
		for count := range 6 {
			for got := range count + 1 {
				why := fmt.Sprint(got, " of ", count, " on ", why)
				w := wayWorld(places, number, got, payloads(0, count)...)
				askVerdict(t, why, w, fair())
				for at := range got {
					for _, s := range append(otherTexts(payload(at)), payload(at+1), payload(at-1)) {
						other := turnedWorld(w, func(w *impl.World) { w.Took[number][at] = s })
						askVerdict(t, fmt.Sprintf("%s, %q at %d", why, s, at), other, noOrder())
					}
					for with := range at {
						other := turnedWorld(w, func(w *impl.World) {
							took := w.Took[number]
							took[at], took[with] = took[with], took[at]
						})
						askVerdict(t, fmt.Sprint(why, ", turned round ", at, " and ", with), other, noOrder())
					}
				}
				for at := got; at < count; at++ {
					other := turnedWorld(w, func(w *impl.World) { w.Gave[number][at], w.Links[number].Queue[at] = "x", "x" })
					askVerdict(t, fmt.Sprint(why, ", not handed up yet ", at), other, fair())
					other.Links[number].Queue[at] = "y"
					askVerdict(t, fmt.Sprint(why, ", not handed up yet, nor queued so ", at), other, noQueue())
				}
			}
		}
	})
}

// What is alike may be turned round, and an empty text is one like any other.
func TestJudgeOrderOfLikeTexts(t *testing.T) {
	for _, s := range words("", "x", payload(0), procMove(5), wordBytes(5, aWord)) {
		for count := range 5 {
			for got := range count + 1 {
				w := wayWorld(2, 1, got, slices.Repeat(words(s), count)...)
				w.Next = 1
				slices.Reverse(w.Took[1])
				askVerdict(t, fmt.Sprintf("%d of %d times %.30q", got, count, s), w, fair())
			}
		}
	}
}

// The last ones handed up are not the first ones: the beginning counts.
func TestJudgeOrderIsOfTheBeginning(t *testing.T) {
	eachLink(func(why string, places int, number int) {
		w := wayWorld(places, number, 3, payloads(0, 5)...)
		for from := 1; from <= 2; from++ {
			w.Took[number] = payloads(from, from+3)
			askVerdict(t, fmt.Sprint("from ", from, " on, ", why), w, noOrder())
		}
		// One is left out, one comes twice.
		w.Took[number] = words(payload(0), payload(2), payload(3))
		askVerdict(t, "one left out, "+why, w, noOrder())
		w.Took[number] = words(payload(0), payload(0), payload(1))
		askVerdict(t, "one twice, "+why, w, noOrder())
	})
}

// What was handed up on a link is held against what was handed in on the same one.
func TestJudgeOrderOfTwoLinks(t *testing.T) {
	eachTwoLinks(func(places int, first int, second int) {
		w := bareWorld(places)
		setWay(&w, first, 2, "a", "b", "c")
		setWay(&w, second, 2, "d", "e", "f")
		askVerdict(t, "two links", w, fair())
		w.Took[first], w.Took[second] = w.Took[second], w.Took[first]
		askVerdict(t, "two links, turned round", w, noOrder())
		w.Took[second] = words("d", "e")
		askVerdict(t, "one of two links", w, noOrder())
	})
}

// As many as there may be on one link.
func TestJudgesOfLongWays(t *testing.T) {
	for _, number := range []int{0, 8} {
		w := bareWorld(3)
		putWay(&w, number, lastNo-30, lastNo-20, []int{lastNo - 19, lastNo - 17}, payloads(0, lastNo)...)
		askVerdict(t, "a long way", w, fair())
		for _, at := range []int{0, 1, lastNo / 2, lastNo - 22, lastNo - 21} {
			w.Took[number][at] = "x"
			askVerdict(t, fmt.Sprint("another one handed up at ", at), w, noOrder())
			w.Took[number][at] = payload(at)
		}
		for _, at := range []int{0, 15, 29} {
			w.Links[number].Queue[at] = "x"
			askVerdict(t, fmt.Sprint("another one queued at ", at), w, noQueue())
			w.Links[number].Queue[at] = payload(lastNo - 30 + at)
		}
		w.Gave[number][lastNo-1], w.Links[number].Queue[29] = procMove(5), procMove(5)
		w.Homes, w.Next = homesOf(2, 5), 6
		askVerdict(t, "the last one moves a home", w, notOnce())
	}
}

func TestJudgeOnceOfHomes(t *testing.T) {
	for places := 1; places <= mostPlaces; places++ {
		for first := range places {
			for second := range places {
				w := bareWorld(places)
				w.Next = 9
				w.Homes = slices.Concat(homesOf(first, 5), homesOf(second, 6))
				askVerdict(t, "two of two pids", w, fair())
				w.Homes = slices.Concat(homesOf(first, 5), homesOf(second, 5))
				askVerdict(t, fmt.Sprint("one pid at ", first, " and ", second), w, notOnce())
				w.Homes[1].P = aProc(1)
				w.Homes[1].P.Pid = 5
				askVerdict(t, "one pid of two that are not alike", w, notOnce())
				w.Homes = slices.Concat(homesOf(first, 1, 5, 2), homesOf(0, 3, 4), homesOf(second, 8, 5, 6))
				askVerdict(t, fmt.Sprint("one pid among others at ", first, " and ", second), w, notOnce())
				w.Homes[1].P.Pid = 7
				askVerdict(t, "as many as there may be", w, fair())
			}
		}
	}
	// Any two of them.
	for first := range mostProcs {
		for second := range first {
			w := bareWorld(2)
			w.Next, w.Homes = 9, homesOf(1, 1, 2, 3, 4, 5, 6, 7, 8)
			w.Homes[first].P.Pid = w.Homes[second].P.Pid
			askVerdict(t, fmt.Sprint("homes ", second, " and ", first), w, notOnce())
		}
	}
}

func TestJudgeOnceOfAHomeOnItsWay(t *testing.T) {
	eachLink(func(why string, places int, number int) {
		for at := range places {
			for count := 1; count <= 4; count++ {
				for no := range count {
					for got := range count + 1 {
						gave := words(wordBytes(5, aWord), procMove(6), "none", procMove(8))[:count]
						gave[no] = procMove(5)
						w := wayWorld(places, number, got, gave...)
						w.Homes, w.Next = slices.Concat(homesOf(0, 1), homesOf(at, 5)), 9
						want := fair()
						if no >= got {
							want = notOnce()
						}
						askVerdict(t, fmt.Sprint("home at ", at, ", moved by ", no, " of ", count, ", got ", got, ", ", why), w, want)
						w.Homes = w.Homes[:1]
						askVerdict(t, "on its way alone, "+why, w, fair())
					}
				}
			}
		}
	})
}

func TestJudgeOnceOfTwoOnOneWay(t *testing.T) {
	eachLink(func(why string, places int, number int) {
		for first := range 4 {
			for second := first + 1; second < 5; second++ {
				for got := range 6 {
					gave := words("a", procMove(6), wordBytes(5, aWord), procMove(7), "e")
					gave[first], gave[second] = procMove(5), procMove(5)
					want := fair()
					if got <= first {
						want = notOnce()
					}
					for _, homes := range [][]impl.Home{nil, homesOf(0, 1)} {
						w := bareWorld(places)
						putWay(&w, number, got/2, got, nil, gave...)
						w.Homes, w.Next = homes, 9
						askVerdict(t, fmt.Sprint("moved by ", first, " and ", second, ", got ", got, ", ", why), w, want)
					}
				}
			}
		}
	})
}

func TestJudgeOnceOfTwoWays(t *testing.T) {
	eachTwoLinks(func(places int, first int, second int) {
		for gotOne := range 3 {
			for gotTwo := range 3 {
				w := bareWorld(places)
				w.Next = 9
				setWay(&w, first, gotOne, "x", procMove(5), procMove(6))
				setWay(&w, second, gotTwo, procMove(7), procMove(5), wordBytes(6, aWord))
				want := fair()
				if gotOne < 2 && gotTwo < 2 {
					want = notOnce()
				}
				askVerdict(t, fmt.Sprint("on links ", first, " and ", second, ", got ", gotOne, " and ", gotTwo), w, want)
			}
		}
	})
}

// There are those from 1 up to below Next: others are not asked.
func TestJudgeOnceGoesByNext(t *testing.T) {
	for _, pid := range []int{1, 2, 5, 127, 128, 300, lastPid - 2, lastPid - 1, lastPid} {
		three := map[string]func(w *impl.World){
			"two homes":           func(w *impl.World) { w.Homes = slices.Concat(homesOf(0, pid), homesOf(1, pid)) },
			"a home and a way":    func(w *impl.World) { w.Homes = homesOf(1, pid); setWay(w, 3, 0, procMove(pid)) },
			"twice on one way":    func(w *impl.World) { setWay(w, 3, 0, procMove(pid), procMove(pid)) },
			"once on each of two": func(w *impl.World) { setWay(w, 0, 0, procMove(pid)); setWay(w, 3, 0, procMove(pid)) },
		}
		for why, put := range three {
			for _, next := range []int{1, 2, pid - 1, pid, pid + 1, pid + 2, lastPid - 1, lastPid} {
				w := bareWorld(2)
				put(&w)
				if w.Next = next; next < 1 || next > lastPid {
					continue
				}
				want := fair()
				if pid < next {
					want = notOnce()
				}
				askVerdict(t, fmt.Sprint(why, ", pid ", pid, ", next ", next), w, want)
			}
		}
	}
	// One that is not asked does not hide one that is, nor the other way round.
	w := bareWorld(2)
	w.Homes, w.Next = homesOf(0, 9, 9, 8, 10, 10), 9
	askVerdict(t, "others twice", w, fair())
	w.Homes = append(w.Homes, homesOf(1, 8)...)
	askVerdict(t, "others twice, and one", w, notOnce())
}

// What moves nobody does not count, however often it is there.
func TestJudgeOnceOfWhatMovesNobody(t *testing.T) {
	for _, pid := range []int{1, 2, 3, 5, 127, 128, lastPid - 1} {
		far := aProc(pid)
		far.M.At = 4
		list := movesNobody(pid)
		list["a process of another code"] = moveBytes(joined(procPieces(pid, machineBytes(far.M), nil, nil)))
		for why, s := range list {
			why = fmt.Sprint(why, ", pid ", pid)
			w := wayWorld(2, 2, 0, s, s)
			setWay(&w, 3, 0, s)
			w.Next = pid + 1
			askVerdict(t, why+", nobody at home", w, fair())
			w.Homes = homesOf(0, pid)
			askVerdict(t, why+", and a home", w, fair())
			w.Homes = nil
			setWay(&w, 3, 0, s, procMove(pid), s)
			askVerdict(t, why+", and it is moved", w, fair())
			setWay(&w, 1, 0, procMove(pid))
			askVerdict(t, why+", and it is moved twice", w, notOnce())
		}
	}
}

// What was handed in counts, not what is queued, is held, was handed up, is a gram or is parked.
func TestJudgeOnceGoesByWhatWasHandedIn(t *testing.T) {
	w := wayWorld(2, 1, 1, procMove(6), "x", "y", "z")
	w.Homes, w.Next = homesOf(0, 5), 9
	w.Took[1] = words(procMove(5))
	askVerdict(t, "handed up", w, noOrder())
	w.Took[1] = words(procMove(6))
	w.Links[1].Held = []impl.Piece{{No: 2, Text: procMove(5)}}
	askVerdict(t, "held", w, noQueue())
	w.Links[1].Held = nil
	w.Links[1].Queue = words(procMove(6), procMove(5), procMove(5), procMove(5))
	askVerdict(t, "queued", w, noQueue())
	w.Links[1].Queue = slices.Clone(w.Gave[1])
	w.Grams = gramsOf(3, impl.Gram{Kind: 1, To: 1, P: impl.Piece{No: 2, Text: procMove(5)}})
	w.Parked = []impl.Parked{{At: 1, To: 5, Text: procMove(5)}}
	askVerdict(t, "grams and parked", w, fair())
	w.Homes[0].P.Box, w.Homes[0].P.Out = mail(3), words(procMove(5))
	askVerdict(t, "printed", w, fair())
	w.Gave[1][1] = procMove(5)
	askVerdict(t, "handed in, and not queued", w, verdict{true, false, false})
}

// crowdedWorld: as many homes and as many on all ways as there may be, each of another pid.
func crowdedWorld(places int) (impl.World, int) {
	w := bareWorld(places)
	pid := 0
	for range mostProcs {
		pid++
		w.Homes = append(w.Homes, homesOf(pid%places, pid)...)
	}
	for number := range w.Links {
		gave := []string{}
		for range 30 {
			pid++
			gave = append(gave, procMove(pid))
		}
		setWay(&w, number, 0, gave...)
	}
	w.Next = pid + 1
	return w, pid
}

func TestJudgeOnceOfCrowdedWorlds(t *testing.T) {
	for places := 1; places <= mostPlaces; places++ {
		w, last := crowdedWorld(places)
		askVerdict(t, "crowded", w, fair())
		number := places*places - 1
		// The last one of all stands there as it is.
		for _, pid := range []int{1, mostProcs, mostProcs + 1, mostProcs + 29, last - 1} {
			other := turnedWorld(w, func(w *impl.World) { w.Gave[number][29], w.Links[number].Queue[29] = procMove(pid), procMove(pid) })
			askVerdict(t, fmt.Sprint("crowded, and ", pid, " twice"), other, notOnce())
		}
		other := turnedWorld(w, func(w *impl.World) { w.Homes[mostProcs-1].P.Pid = last })
		askVerdict(t, "crowded, and the last one at home", other, notOnce())
		other.Next = last
		askVerdict(t, "crowded, and one that is not asked at home", other, fair())
	}
}

// heldSets: all that may be held beyond got of so many that were handed in.
func heldSets(count int, got int) [][]int {
	list := [][]int{nil}
	for no := got + 1; no < min(got+4, count); no++ {
		for _, held := range slices.Clone(list) {
			list = append(list, append(slices.Clone(held), no))
		}
	}
	return list
}

func TestJudgeQueue(t *testing.T) {
	eachLink(func(why string, places int, number int) {
		for count := range 6 {
			for got := range count + 1 {
				for acked := range got + 1 {
					why := fmt.Sprint(acked, " and ", got, " of ", count, " on ", why)
					w := bareWorld(places)
					putWay(&w, number, acked, got, nil, payloads(0, count)...)
					askVerdict(t, why, w, fair())
					for at := range count - acked {
						for _, s := range append(otherTexts(payload(acked+at)), payload(acked+at-1), payload(acked+at+1)) {
							other := turnedWorld(w, func(w *impl.World) { w.Links[number].Queue[at] = s })
							askVerdict(t, fmt.Sprintf("%s, %q at %d", why, s, at), other, noQueue())
						}
					}
					// What was told of is queued no more, and so not asked.
					for at := range acked {
						other := turnedWorld(w, func(w *impl.World) { w.Gave[number][at], w.Took[number][at] = "x", "x" })
						askVerdict(t, fmt.Sprint(why, ", told of ", at), other, fair())
					}
					for at := acked; at < got; at++ {
						other := turnedWorld(w, func(w *impl.World) { w.Gave[number][at], w.Took[number][at] = "x", "x" })
						askVerdict(t, fmt.Sprint(why, ", not told of ", at), other, noQueue())
					}
				}
			}
		}
	})
}

// The first ones of what was handed in are not the last ones.
func TestJudgeQueueIsOfTheLast(t *testing.T) {
	eachLink(func(why string, places int, number int) {
		w := bareWorld(places)
		putWay(&w, number, 2, 3, nil, payloads(0, 6)...)
		for from := range 4 {
			w.Links[number].Queue = payloads(from, from+4)
			want := noQueue()
			if from == 2 {
				want = fair()
			}
			askVerdict(t, fmt.Sprint("from ", from, " on, ", why), w, want)
		}
		w.Links[number].Queue = payloads(2, 6)
		slices.Reverse(w.Links[number].Queue)
		askVerdict(t, "the other way round, "+why, w, noQueue())
		// Alike ones may be turned round.
		putWay(&w, number, 2, 3, []int{4, 5}, "", "a", "b", "b", "b", "b")
		slices.Reverse(w.Links[number].Queue)
		askVerdict(t, "alike, "+why, w, fair())
	})
}

func TestJudgeQueueOfHeld(t *testing.T) {
	eachLink(func(why string, places int, number int) {
		for _, count := range []int{2, 3, 4, 5, 6, 30} {
			for got := range min(count, 4) {
				for _, held := range heldSets(count, got) {
					why := fmt.Sprint("held ", held, " beyond ", got, " of ", count, " on ", why)
					w := bareWorld(places)
					putWay(&w, number, got/2, got, held, payloads(0, count)...)
					askVerdict(t, why, w, fair())
					for at, no := range held {
						for _, s := range append(otherTexts(payload(no)), payload(no-1), payload(no+1), payload(got), payload(at), payload(no-got), payload(got/2+no)) {
							if s == payload(no) {
								continue
							}
							other := turnedWorld(w, func(w *impl.World) { w.Links[number].Held[at].Text = s })
							askVerdict(t, fmt.Sprintf("%s, %q at %d", why, s, at), other, noQueue())
						}
					}
				}
			}
		}
	})
}

// What is queued and held on a link is held against what was handed in on the same one.
func TestJudgeQueueOfTwoLinks(t *testing.T) {
	eachTwoLinks(func(places int, first int, second int) {
		w := bareWorld(places)
		putWay(&w, first, 1, 1, []int{2}, "a", "b", "c")
		putWay(&w, second, 1, 1, []int{2}, "d", "e", "f")
		askVerdict(t, "two links", w, fair())
		other := turnedWorld(w, func(w *impl.World) { w.Links[first].Queue[0], w.Links[second].Queue[0] = "e", "b" })
		askVerdict(t, "queued on the other one", other, noQueue())
		other = turnedWorld(w, func(w *impl.World) { w.Links[first].Held[0].Text, w.Links[second].Held[0].Text = "f", "c" })
		askVerdict(t, "held on the other one", other, noQueue())
		other = turnedWorld(w, func(w *impl.World) { w.Links[first].Held[0].Text = "f" })
		askVerdict(t, "held on one", other, noQueue())
	})
}

// Each of the three broken or not, on any link and in more than one way.
func TestJudgeAll(t *testing.T) {
	orders := []func(w *impl.World){
		func(w *impl.World) { w.Took[0][0] = "x" },
		func(w *impl.World) { w.Took[len(w.Took)-1][2] = "x" },
	}
	onces := []func(w *impl.World){
		func(w *impl.World) { w.Homes = append(w.Homes, w.Homes[0]) },
		func(w *impl.World) { w.Homes[3].P.Pid = 4 },
		func(w *impl.World) { w.Homes[0].P.Pid = 5 },
	}
	queues := []func(w *impl.World){
		func(w *impl.World) { w.Links[0].Queue[0] = "x" },
		func(w *impl.World) { w.Links[len(w.Links)-1].Queue[6] = "x" },
		func(w *impl.World) { w.Links[len(w.Links)-1].Held[1].Text = "x" },
	}
	for places := 1; places <= mostPlaces; places++ {
		for which := range 8 {
			for i := range 6 {
				w := cloneWorld(fairWorld(places))
				want := verdict{which&1 == 0, which&2 == 0, which&4 == 0}
				if !want.order {
					orders[i%2](&w)
				}
				if !want.once {
					onces[i%3](&w)
				}
				if !want.queue {
					queues[i/2](&w)
				}
				askVerdict(t, fmt.Sprint("broken: ", which, ", in way ", i, ", of ", places), w, want)
			}
		}
	}
}

func TestPrints(t *testing.T) {
	for places := 1; places <= mostPlaces; places++ {
		for _, out := range [][]string{nil, words(""), words("", ""), printed(1), printed(2), printed(39), printed(40), words(strings.Repeat("x", 400), "b", strings.Repeat("y", 399))} {
			for count := 1; count <= mostProcs; count++ {
				for at := range count {
					w := bareWorld(places)
					for pid := 1; pid <= count; pid++ {
						w.Homes = append(w.Homes, homesOf(pid%places, pid)...)
					}
					w.Homes[at].P.Out = out
					for i, h := range w.Homes {
						askPrints(t, fmt.Sprint("home ", i, " of ", count), w, h.P.Pid, h.P.Out)
					}
					for _, pid := range []int{0, -1, -at - 1, count + 1, lastPid, lastPid + 1, math.MaxInt, math.MinInt, 1<<32 + 1} {
						askPrints(t, "nobody", w, pid, nil)
					}
				}
			}
		}
	}
}

// Whatever else it has to do with the world, without a home it prints nothing.
func TestPrintsOfWhoHasNoHome(t *testing.T) {
	w := bareWorld(2)
	w.Homes = homesOf(0, 2)
	setWay(&w, 1, 1, procMove(3), procMove(7))
	w.Grams = []impl.Gram{{Kind: 1, To: 1, P: impl.Piece{No: 1, Text: procMove(7)}}}
	w.Parked = []impl.Parked{{At: 1, To: 7, Text: aWord}}
	w.Next = 8
	askVerdict(t, "on its way", w, fair())
	askPrints(t, "on its way", w, 7, nil)
	askPrints(t, "handed up", w, 3, nil)
	askPrints(t, "the next one", w, 8, nil)
	askPrints(t, "at home", w, 2, printed(2))
	w.Homes = append(w.Homes, homesOf(1, 7)...)
	askPrints(t, "at home at last", w, 7, printed(3))
	for places := 1; places <= mostPlaces; places++ {
		for pid := range 10 {
			askPrints(t, "nobody there", bareWorld(places), pid, nil)
		}
	}
}

// Of two homes of one Pid the first one prints; what the judges tell is not asked, nor whether the Pid is below Next.
func TestPrintsOfTheFirstHome(t *testing.T) {
	w := bareWorld(3)
	w.Homes = slices.Concat(homesOf(2, 1), homesOf(0, 5, 5), homesOf(1, 5))
	w.Homes[1].P.Out, w.Homes[2].P.Out, w.Homes[3].P.Out = words("a"), words("b", "c"), printed(3)
	for _, next := range []int{1, 5, 6} {
		w.Next = next
		askPrints(t, "the first of three", w, 5, words("a"))
	}
	w.Homes[1].P.Out = nil
	askPrints(t, "the first one has printed nothing", w, 5, nil)
	w.Homes = w.Homes[2:]
	askPrints(t, "the first of two", w, 5, words("b", "c"))
	setWay(&w, 0, 0, procMove(5), "x")
	w.Took[0], w.Links[0].Queue[1] = nil, "y"
	askVerdict(t, "not once, and queued otherwise", w, verdict{true, false, false})
	askPrints(t, "the judges do not hold", w, 5, words("b", "c"))
}

// A process prints where it is at home, nothing while it goes, and all of it where it comes.
func TestPrintsOfOneThatGoesAbout(t *testing.T) {
	w := programWorld(t, 2, "(do (print 1) (print (quote (a b))) (go 1) (print 2) (go 0) (print 3))")
	askPrints(t, "new", w, 1, nil)
	for i, x := range []struct {
		d    impl.Deed
		want []string
	}{
		{stepOf(1, 5), words("1")},
		{stepOf(1, mostMore), nil},
		{showOf(0, 1), nil},
		{giveOf(0), words("1", "(a b)")},
		{stepOf(1, 6), words("1", "(a b)", "2")},
		{stepOf(1, mostMore), nil},
		{showOf(1, 0), nil},
		{giveOf(1), words("1", "(a b)", "2")},
		{stepOf(1, mostMore), words("1", "(a b)", "2", "3")},
	} {
		next, code := impl.WorldDo(w, x.d)
		if code != isDone {
			t.Fatal("deed", i, "tells", code)
		}
		askVerdict(t, fmt.Sprint("deed ", i), next, fair())
		askPrints(t, fmt.Sprint("deed ", i), next, 1, x.want)
		w = next
	}
}

// someJudged: a world that is right, in which some things that are judged may be otherwise than they should.
func (r *aRandom) someJudged() impl.World {
	w := r.somePlaced().w
	w.Next = []int{1, 4, 10, 10, 12, lastPid}[r.below(6)]
	for number, l := range w.Links {
		acked := r.below(l.Got + 1)
		held := heldSets(l.Sent, l.Got)
		putWay(&w, number, acked, l.Got, held[r.below(len(held))], w.Gave[number]...)
	}
	for range r.below(4) {
		r.misjudge(&w)
	}
	return w
}

// misjudge turns one thing that is judged, or would be if it stood elsewhere; the world stays right.
func (r *aRandom) misjudge(w *impl.World) {
	number := r.below(len(w.Links))
	l := &w.Links[number]
	s := []string{"x", "", procMove(1 + r.below(9)), payload(r.below(9))}[r.below(4)]
	put := func(list []string) {
		if len(list) > 0 {
			list[r.below(len(list))] = s
		}
	}
	switch r.below(6) {
	case 0:
		put(w.Took[number])
	case 1:
		put(l.Queue)
	case 2:
		if len(l.Held) > 0 {
			l.Held[r.below(len(l.Held))].Text = s
		}
	case 3:
		put(w.Gave[number])
	case 4:
		if len(w.Homes) < mostProcs {
			w.Homes = slices.Insert(w.Homes, r.below(len(w.Homes)+1), homesOf(r.below(w.Places), 1+r.below(9))...)
		}
	case 5:
		if len(l.Queue) < 30 {
			addMail(w, number, procMove(1+r.below(9)))
		}
	}
}

func TestAnyWorldsAreJudgedByRules(t *testing.T) {
	t.Parallel()
	r := &aRandom{x: 2701}
	seen := map[verdict]int{}
	broken := 0
	for range 4000 {
		w := r.someJudged()
		want := verdictByRules(w)
		askVerdict(t, "any", w, want)
		seen[want]++
		for pid := range 11 {
			out := []string(nil)
			if home := homeByRules(w, pid); home != -1 {
				out = w.Homes[home].P.Out
			}
			askPrints(t, "any", w, pid, out)
		}
		r.breakWorld(&w)
		if !worldByRules(w) {
			askNothingJudged(t, "any", w)
			broken++
		}
		if t.Failed() {
			return
		}
	}
	for which := range 8 {
		if v := (verdict{which&1 == 0, which&2 == 0, which&4 == 0}); seen[v] < 40 {
			t.Error("so often was seen", v, seen)
		}
	}
	if broken < 1000 {
		t.Error("so few were broken", broken)
	}
}

// worldsToJudge: of all sorts, right and not right, fair and not fair.
func worldsToJudge(t *testing.T) map[string]impl.World {
	list := map[string]impl.World{"zero": {}}
	r := &aRandom{x: 2801}
	for places := 1; places <= mostPlaces; places++ {
		w := fairWorld(places)
		list[fmt.Sprint("fair, of ", places)] = w
		list[fmt.Sprint("busy, of ", places)] = busyWorld(places)
		list[fmt.Sprint("bare, of ", places)] = bareWorld(places)
		crowded, _ := crowdedWorld(places)
		list[fmt.Sprint("crowded, of ", places)] = crowded
		for _, why := range words("no next", "too many grams", "too many homes", "nothing handed up", "a queue of all") {
			list[fmt.Sprint(why, ", of ", places)] = turnedWorld(w, soundBut()[why])
		}
	}
	for i, text := range livelyPrograms() {
		w := programWorld(t, 3, text)
		list[text], _ = impl.WorldRun(w, r.someRow(w, 60+10*i))
	}
	for i := range 60 {
		w := r.someJudged()
		list[fmt.Sprint("any ", i)] = w
		w = cloneWorld(w)
		r.breakWorld(&w)
		list[fmt.Sprint("broken ", i)] = w
	}
	return list
}

// Nothing is written into a world nor into the room behind it, and what is answered is memory of its own.
func TestNothingIsWrittenByJudges(t *testing.T) {
	for why, w := range worldsToJudge(t) {
		w = roomyWorld(w)
		before := memoryTold(w)
		told := judged(w)
		impl.JudgeAll(w)
		// All answers are kept to the end: the memory of one that is gone may be given to another one.
		var answers [][]string
		for pid := range 11 {
			answers = append(answers, impl.Prints(w, pid), impl.Prints(w, pid))
		}
		if memoryTold(w) != before {
			t.Errorf("%s: an argument was written into, or the room behind it", why)
		}
		all := spansOf("world", reflect.ValueOf(w))
		for i, out := range answers {
			all = append(all, spansOf(fmt.Sprint("answer ", i), reflect.ValueOf(out))...)
		}
		if two := shared(all); two != nil {
			t.Errorf("%s: %q share memory", why, two)
		}
		for _, out := range answers {
			out = out[:cap(out)]
			for i := range out {
				out[i] = "spoilt"
			}
		}
		if memoryTold(w) != before || judged(w) != told {
			t.Errorf("%s: what is written into an answer stands in the world", why)
		}
		runtime.KeepAlive(answers)
		runtime.KeepAlive(w)
	}
}

// What was answered stays, whatever is done to the world then.
func TestPrintsStay(t *testing.T) {
	w := bareWorld(2)
	w.Homes = homesOf(1, 5)
	w.Homes[0].P.Out = withSpare(printed(4), "spare")
	out := impl.Prints(w, 5)
	for i := range w.Homes[0].P.Out {
		w.Homes[0].P.Out[i] = "turned"
	}
	if !slices.Equal(out, printed(4)) {
		t.Errorf("it tells %q now", out)
	}
	out = append(out, "more")
	if all := w.Homes[0].P.Out[:5]; all[4] != "spare" {
		t.Errorf("behind what was printed stands %q", all[4])
	}
}

// Each answers the same however often it is asked, between others, by one or by many at once.
func TestJudgesAnswerTheSame(t *testing.T) {
	worlds := worldsToJudge(t)
	first := map[string]verdict{}
	outs := map[string][]string{}
	for why, w := range worlds {
		first[why], outs[why] = judged(w), impl.Prints(w, 1)
	}
	ask := func() {
		for why, w := range worlds {
			want := first[why]
			if got := judged(w); got != want || impl.JudgeAll(w) != (want == fair()) || !slices.Equal(impl.Prints(w, 1), outs[why]) {
				t.Errorf("%s: it tells %+v, not %+v", why, got, want)
			}
		}
	}
	ask()
	var all sync.WaitGroup
	for range 8 {
		all.Go(ask)
	}
	all.Wait()
	for _, w := range worlds {
		if judgedBackwards(w) != judged(w) {
			t.Error("the order in which they are asked counts", toldWorld(w))
		}
	}
}

func judgedBackwards(w impl.World) verdict {
	queue := impl.JudgeQueue(w)
	once := impl.JudgeOnce(w)
	return verdict{impl.JudgeOrder(w), once, queue}
}
