package tests

import (
	"fmt"
	"math"
	"reflect"
	"runtime"
	"slices"
	"strings"
	"sync"
	"testing"
	"testing/synctest"

	"loop.example/g00189/impl"
)

const (
	mostDays  = 60
	stepsADay = 51
)

// One that counts on and on, and needs no more room the longer it runs: it is never twice the same.
const counting = "(define (loop p) ((cdr p) (cons (+ 1 (car p)) (cdr p)))) (loop (callcc (fn (k) (cons 0 k))))"

// roaming: two who go about and count without end.
func roaming(places int) string {
	return fmt.Sprintf("(define (roam n) (do (go %d) (go 0) (roam (+ n 1)))) (do (spawn (fn () (roam 5))) (roam 0))", places-1)
}

// roundByRules: deed by deed, as the chapter tells it.
func roundByRules(w impl.World) impl.World {
	if !worldByRules(w) {
		return impl.World{}
	}
	for _, h := range slices.Clone(w.Homes) {
		w, _ = deedDoneByRules(w, stepOf(h.P.Pid, 50))
	}
	// What is refused of the other kinds leaves nothing half done.
	r := &worldRuling{cloneWorld(w)}
	for _, d := range []impl.Deed{showOf(0, 1), showOf(0, 2), showOf(1, 0), showOf(1, 2), showOf(2, 0), showOf(2, 1)} {
		if d.A < w.Places && d.B < w.Places {
			r.deed(d)
		}
	}
	for given := 0; given < 60 && r.deed(giveOf(0)) == isDone; given++ {
	}
	return r.w
}

func daysByRules(w impl.World, n int) impl.World {
	for day := 0; day < n && day < 60; day++ {
		w = roundByRules(w)
	}
	return w
}

// askRound asks what a round comes to; and that the rules tell so, too.
func askRound(t *testing.T, why string, w impl.World, want impl.World) {
	t.Helper()
	if got := impl.Round(w); !sameWorld(got, want) {
		t.Errorf("%s: Round tells %s\nnot %s\nof %s", why, toldWorld(got), toldWorld(want), toldWorld(w))
	}
	if by := roundByRules(w); !sameWorld(by, want) {
		t.Errorf("%s: the rules tell %s\nnot %s\nof %s", why, toldWorld(by), toldWorld(want), toldWorld(w))
	}
}

// askRoundTurns: the world is turned just so.
func askRoundTurns(t *testing.T, why string, w impl.World, turn func(w *impl.World)) {
	t.Helper()
	askRound(t, why, w, turnedWorld(w, turn))
}

func askDays(t *testing.T, why string, w impl.World, n int, want impl.World) {
	t.Helper()
	if got := impl.Days(w, n); !sameWorld(got, want) {
		t.Errorf("%s: %d Days tell %s\nnot %s\nof %s", why, n, toldWorld(got), toldWorld(want), toldWorld(w))
	}
}

// someDays: numbers of days, at the limits and far from them.
func someDays() []int {
	return []int{math.MinInt, -1 << 32, -mostDays, -2, -1, 0, 1, 2, 3, 30, mostDays - 1, mostDays, mostDays + 1, 2 * mostDays, 1 << 32, math.MaxInt}
}

// aDay: the process behind its one deed of a round.
func aDay(w impl.World, p impl.Proc) impl.Proc {
	p, _ = steppedTimes(w.Code, p, w.Places, stepsADay)
	return p
}

// dayOfAll: each home has taken its deed.
func dayOfAll(w *impl.World) {
	for i, h := range w.Homes {
		w.Homes[i].P = aDay(*w, h.P)
	}
}

// passed: the link on which this was handed in, and all that was handed in was handed up and told of.
func passed(w *impl.World, number int, list ...string) {
	w.Gave[number] = slices.Concat(w.Gave[number], list)
	w.Took[number] = slices.Clone(w.Gave[number])
	count := len(w.Gave[number])
	w.Links[number] = impl.Link{Sent: count, Acked: count, Got: count}
}

// moved: the move of what comes of a process by its last step, in its bytes.
func moved(w impl.World, p impl.Proc) string { return moveBytes(procBytes(aDay(w, p))) }

// counters: so many processes that count, each of another pid, at another place and at another number.
func counters(t *testing.T, places int, count int) impl.World {
	t.Helper()
	w := programWorld(t, places, counting)
	begun := w.Homes[0].P
	w.Homes = nil
	for i := range count {
		p, _ := steppedTimes(w.Code, begun, places, 7*i+3)
		p.Pid = 20 - i
		w.Homes = append(w.Homes, homeAt((i+1)%places, p))
	}
	w.Next = 21
	return w
}

func TestHonestNumbers(t *testing.T) {
	if impl.MaxDays != mostDays || impl.MaxMore+1 != stepsADay {
		t.Error("limits", impl.MaxDays, impl.MaxMore)
	}
}

func askNoDays(t *testing.T, why string, w impl.World) {
	t.Helper()
	askRound(t, why, w, impl.World{})
	for _, n := range someDays() {
		askDays(t, why, w, n, impl.World{})
	}
}

func TestDaysOfWorldsThatAreNotRight(t *testing.T) {
	askNoDays(t, "zero", impl.World{})
	for places := 1; places <= mostPlaces; places++ {
		for why, turn := range soundBut() {
			askNoDays(t, why, turnedWorld(fairWorld(places), turn))
		}
		for _, count := range []int{mostGrams + 1, 59, 60, 61, 100} {
			w := bareWorld(places)
			w.Grams = gramsOf(count, ackGram(0, 0, 0))
			askNoDays(t, fmt.Sprint(count, " grams"), w)
		}
	}
	for why, c := range brokenCodes() {
		w := busyWorld(2)
		w.Code = c
		askNoDays(t, why, w)
	}
}

// Worlds of which one thing was turned, at each of its edges: zero of those that are not right, and of the others what the rules tell.
func TestDaysOfTurnedWorlds(t *testing.T) {
	t.Parallel()
	right, broken := 0, 0
	eachTurned(func(why string, w impl.World, fits bool) {
		n := someDays()[(right+broken)%len(someDays())]
		if !fits {
			askRound(t, why, w, impl.World{})
			askDays(t, why, w, n, impl.World{})
			broken++
			return
		}
		askRound(t, why, w, roundByRules(w))
		askDays(t, why, w, min(n, 3), daysByRules(w, min(n, 3)))
		right++
	})
	if right < 1000 || broken < 1000 {
		t.Error("so many were right, and not right", right, broken)
	}
}

func TestRoundsWithoutHomes(t *testing.T) {
	for places := 1; places <= mostPlaces; places++ {
		askRoundTurns(t, "nothing there", bareWorld(places), nothingElse)
		for _, n := range someDays() {
			askDays(t, "nothing there", bareWorld(places), n, bareWorld(places))
		}
	}
	// What is on its way comes, four at a time.
	for from := range 2 {
		number, to := 1+from, 1-from
		w := bareWorld(2)
		list := words(procMove(1), procMove(2), "x", procMove(3), procMove(4), procMove(5))
		setWay(&w, number, 0, list...)
		first := turnedWorld(w, func(w *impl.World) {
			passed(w, number)
			w.Links[number] = impl.Link{Sent: 6, Acked: 4, Got: 4, Queue: list[4:]}
			w.Took[number] = list[:4]
			w.Homes = homesOf(to, 1, 2, 3)
		})
		askRound(t, "the first four", w, first)
		askRoundTurns(t, "the last two", first, func(w *impl.World) {
			dayOfAll(w)
			passed(w, number)
			w.Homes = append(w.Homes, homesOf(to, 4, 5)...)
		})
	}
}

// Each home takes one deed, of one step and MaxMore more, whatever its place, its pid and its number.
func TestEachHomeTakesOneDeed(t *testing.T) {
	for places := 1; places <= mostPlaces; places++ {
		for count := range mostProcs + 1 {
			w := counters(t, places, count)
			askRoundTurns(t, fmt.Sprint(count, " homes"), w, dayOfAll)
			for i, h := range w.Homes {
				one, _ := impl.WorldDo(w, stepOf(h.P.Pid, mostMore))
				if got := impl.Round(w).Homes[i].P; !sameProc(got, one.Homes[i].P) || sameProc(got, aDay(w, got)) {
					t.Errorf("home %d of %d steps otherwise: %s", i, count, toldProc(got))
				}
			}
		}
	}
}

// In the order in which they stand, and not by their numbers: what one sends at its place the ones behind it have in the same round.
func TestHomesStepInTheirOrder(t *testing.T) {
	for _, x := range []struct{ sender, taker int }{{1, 5}, {9, 5}} {
		for at := range mostPlaces {
			sender, taker := asker(x.sender, 15, pidNode(5), symNode("word")), asker(x.taker, 16)
			taker.Box = nil
			sent, took := answeredBy(sender, nilNode()), posted(taker, aWord)
			w := askersWorld(mostPlaces, homeAt(at, sender), homeAt(at, taker))
			askRoundTurns(t, "the sender first", w, func(w *impl.World) {
				w.Homes = []impl.Home{homeAt(at, sent), homeAt(at, aDay(*w, took))}
			})
			slices.Reverse(w.Homes)
			first := turnedWorld(w, func(w *impl.World) {
				w.Homes = []impl.Home{homeAt(at, took), homeAt(at, sent)}
			})
			askRound(t, "the taker first", w, first)
			askRoundTurns(t, "the taker first, one round on", first, dayOfAll)
			// At another place it comes in the same round, but behind all steps.
			there := (at + 1) % mostPlaces
			w.Homes = []impl.Home{homeAt(at, sender), homeAt(there, taker)}
			askRoundTurns(t, "the taker elsewhere", w, func(w *impl.World) {
				passed(w, mostPlaces*at+there, wordBytes(5, aWord))
				w.Homes = []impl.Home{homeAt(at, sent), homeAt(there, took)}
			})
		}
	}
}

// One that goes elsewhere comes there in the same round, stands behind all then, and steps there no more.
func TestRoundsOfOneThatGoes(t *testing.T) {
	ways(func(from int, to int) {
		w := leaving(from, to)
		goes := moved(w, w.Homes[2].P)
		askRoundTurns(t, fmt.Sprint("from ", from, " to ", to), w, func(w *impl.World) {
			dayOfAll(w)
			passed(w, 3*from+to, goes)
			gone, _ := procUnpackedByRules(w.Code, mailByRules(goes).text)
			w.Homes = append(slices.Delete(w.Homes, 2, 3), homeAt(to, gone))
		})
		askRoundTurns(t, "to its own place", leaving(from, from), dayOfAll)
		for number := range w.Links {
			fullWay(&w, number)
		}
		if got := impl.Round(w); len(got.Homes) != 4 || !sameHome(got.Homes[2], w.Homes[2]) || sameProc(got.Homes[3].P, w.Homes[3].P) {
			t.Error("with no room it does not stay, or the one behind it does not step", toldWorld(got))
		}
		askRound(t, "with no room", w, roundByRules(w))
	})
	// All go: each stands where it came, in the order in which they came.
	for count := 1; count <= mostProcs; count++ {
		w := askersWorld(2)
		for i := range count {
			w.Homes = append(w.Homes, homeAt(i%2, asker(20-i, 19, intNode(1-i%2))))
		}
		var want []int
		for i := range count {
			want = append(want, 20-i)
		}
		// From place 0 they are shown first, four at most.
		slices.SortStableFunc(want, func(a int, b int) int { return a%2 - b%2 })
		got := impl.Round(w)
		var pids []int
		for _, h := range got.Homes {
			pids = append(pids, h.P.Pid)
			if h.At != 1-h.P.Pid%2 {
				t.Error("it is not there", toldWorld(got))
			}
		}
		if !slices.Equal(pids, want) {
			t.Error("they stand", pids, "and not", want)
		}
	}
}

// One that is over or waits stays as it is, and the others step.
func TestRoundsOfWhatIsOverOrWaits(t *testing.T) {
	waiting := asker(5, 16)
	waiting.Box = nil
	for places := 1; places <= mostPlaces; places++ {
		last := places - 1
		still := []impl.Home{homeAt(0, aProc(2)), homeAt(last, aProc(3)), homeAt(0, waiting), homeAt(last, aProc(6))}
		askRoundTurns(t, "all are still", askersWorld(places, still...), nothingElse)
		for at := range len(still) + 1 {
			w := askersWorld(places, slices.Insert(slices.Clone(still), at, homeAt(last, asker(9, 14)))...)
			askRoundTurns(t, "all but one", w, func(w *impl.World) { w.Homes[at].P = aDay(*w, w.Homes[at].P) })
			if sameProc(impl.Round(w).Homes[at].P, w.Homes[at].P) {
				t.Error("it does not step")
			}
		}
	}
	// It comes to its end, to wait or to fail in the round.
	for text, state := range map[string]int{"(print 5)": impl.MsDone, "(do (print 5) (recv))": impl.MsAsk, "(do (print 5) (car 1))": impl.MsFail} {
		w := programWorld(t, 2, text)
		first := turnedWorld(w, dayOfAll)
		if p := first.Homes[0].P; p.M.State != state || !slices.Equal(p.Out, words("5")) {
			t.Fatal(text, toldProc(p))
		}
		askRound(t, text, w, first)
		askRound(t, text+", one round on", first, first)
	}
}

// One that is spawned stands behind all, and steps from the next round on.
func TestRoundsOfOneThatSpawns(t *testing.T) {
	for at := range 3 {
		for homes := 1; homes <= mostProcs; homes++ {
			for place := range homes {
				w := spawning(at, homes)
				w.Homes[0], w.Homes[place] = w.Homes[place], w.Homes[0]
				why := fmt.Sprint("home ", place, " of ", homes)
				if homes == mostProcs {
					askRoundTurns(t, why, w, func(w *impl.World) {
						asks := w.Homes[place]
						dayOfAll(w)
						w.Homes[place] = asks
					})
					continue
				}
				askRoundTurns(t, why, w, func(w *impl.World) {
					dayOfAll(w)
					w.Homes[place].P = answeredBy(w.Homes[place].P, pidNode(40))
					w.Homes = append(w.Homes, spawnedAt(at, 40))
					w.Next = 41
				})
			}
		}
	}
	w := programWorld(t, 1, "(define (breed) (do (spawn (fn () (breed))) (breed))) (breed)")
	for _, count := range []int{2, 4, 8, 8, 8} {
		if w = impl.Round(w); len(w.Homes) != count || w.Next != count+1 {
			t.Error("not each one has spawned once", count, toldWorld(w))
		}
	}
}

// Of two of one pid the first one that is there takes the deeds of both.
func TestRoundsOfTwoOfOnePid(t *testing.T) {
	for places := 1; places <= mostPlaces; places++ {
		for _, which := range [][]int{{0, 1}, {0, 2}, {1, 3}, {0, 1, 2}, {0, 1, 2, 3}} {
			w := counters(t, places, 4)
			for _, i := range which {
				w.Homes[i].P.Pid = 5
			}
			askRoundTurns(t, fmt.Sprint("alike are ", which), w, func(w *impl.World) {
				for i, h := range w.Homes {
					days := 1
					switch {
					case i == which[0]:
						days = len(which)
					case slices.Contains(which, i):
						days = 0
					}
					for range days {
						h.P = aDay(*w, h.P)
					}
					w.Homes[i].P = h.P
				}
			})
		}
	}
	// The first one goes: the deed that is left is the other one's. What comes is lost then, as there is one of its pid.
	for to := 1; to <= 2; to++ {
		w := askersWorld(3, homeAt(0, asker(5, 19, intNode(to))), homeAt(2, aProc(4)), homeAt(0, asker(5, 14)))
		askRoundTurns(t, "the first one goes", w, func(w *impl.World) {
			passed(w, to, moved(*w, w.Homes[0].P))
			dayOfAll(w)
			w.Homes = w.Homes[1:]
		})
		// Both go: the one that comes first stays.
		w.Homes[2] = homeAt(0, asker(5, 19, intNode(3-to)))
		w.Homes[2].P.Out = printed(7)
		got := impl.Round(w)
		if len(got.Homes) != 2 || got.Homes[1].At != 1 || got.Homes[1].P.Pid != 5 || len(got.Took[1]) != 1 || len(got.Took[2]) != 1 {
			t.Error("both go", toldWorld(got))
		}
		askRound(t, "both go", w, roundByRules(w))
	}
}

// With as many other links, grams and things as there may be what is refused is refused, and the round goes on.
func TestRoundsGoOnBehindWhatIsRefused(t *testing.T) {
	w := askersWorld(2, homeAt(0, asker(1, 19, intNode(1))), homeAt(0, asker(2, 15, pidNode(3), symNode("word"))), homeAt(1, asker(3, 17, funNode(8, 2))), homeAt(1, asker(4, 14)))
	w.Next = lastPid
	lastWay(&w, 1)
	fullWay(&w, 2)
	w.Homes[2].P.Out = printed(9)
	askRoundTurns(t, "three are refused", w, func(w *impl.World) {
		w.Homes[3].P = aDay(*w, w.Homes[3].P)
		w.Links[2] = impl.Link{Sent: 30, Acked: 4, Got: 4, Queue: payloads(4, 30)}
		w.Took[2] = payloads(0, 4)
	})
	// No room for grams: nothing is shown, and what stands there is given.
	for places := 1; places <= mostPlaces; places++ {
		w := bareWorld(places)
		for number := range w.Links {
			setWay(&w, number, 0, payloads(0, 9)...)
		}
		w.Grams = gramsOf(mostGrams, ackGram(places-1, 0, 7))
		askRoundTurns(t, "full of grams", w, func(w *impl.World) { w.Grams = nil })
	}
}

// From each place to each other one, by the first and then by the second; never to itself.
func TestShowsOfARound(t *testing.T) {
	for places := 1; places <= mostPlaces; places++ {
		for skipped := range 1 << (places * places) {
			w := bareWorld(places)
			for number := range w.Links {
				if skipped>>number&1 == 0 {
					setWay(&w, number, 0, procMove(11+number))
				}
			}
			askRoundTurns(t, fmt.Sprint("skipped ", skipped), w, func(w *impl.World) {
				for number := range w.Links {
					from, to := number/places, number%places
					if from != to && len(w.Gave[number]) > 0 && len(w.Homes) < mostProcs {
						passed(w, number)
						w.Homes = append(w.Homes, homesOf(to, 11+number)...)
					}
				}
			})
			if places == mostPlaces && t.Failed() {
				return
			}
		}
	}
}

// As much as there is room for is shown, on the first links first.
func TestShowsOfARoundWithLittleRoom(t *testing.T) {
	for places := 2; places <= mostPlaces; places++ {
		for count := range mostGrams + 1 {
			for queue := 1; queue <= 6; queue++ {
				w := bareWorld(places)
				for number := range w.Links {
					setWay(&w, number, 0, payloads(0, queue)...)
				}
				w.Grams = gramsOf(count, ackGram(0, 1, 0))
				askRoundTurns(t, fmt.Sprint(count, " grams, and ", queue, " on each link"), w, func(w *impl.World) {
					w.Grams = nil
					room := mostGrams - count
					for number := range w.Links {
						if number/places == number%places {
							continue
						}
						up := min(4, queue, room)
						room -= up
						w.Took[number] = payloads(0, up)
						w.Links[number] = aLink(queue, up, up)
					}
				})
			}
		}
	}
}

// What was there is given ahead of what is shown, from the first on; and all of it.
func TestGivenInARound(t *testing.T) {
	for places := 2; places <= mostPlaces; places++ {
		w := bareWorld(places)
		for number := range w.Links {
			if number != 1 {
				setWay(&w, number, 0, procMove(11+number))
			}
		}
		setWay(&w, 1, 0, procMove(31), procMove(32), procMove(33))
		last := places*places - 1
		w.Grams = []impl.Gram{
			dataGram(0, 1, impl.Piece{No: 1, Text: procMove(32)}), dataGram(places-1, places-1, impl.Piece{Text: procMove(11 + last)}),
			dataGram(0, 1, impl.Piece{Text: procMove(31)}), dataGram(0, 0, impl.Piece{Text: procMove(11)}),
		}
		got := impl.Round(w)
		pids := []int{}
		for _, h := range got.Homes {
			pids = append(pids, h.P.Pid)
		}
		want := []int{11 + last, 31, 32, 11, 33, 13}
		if places == mostPlaces {
			want = []int{11 + last, 31, 32, 11, 33, 13, 14, 16}
		}
		if !slices.Equal(pids, want) || len(got.Grams) != 0 {
			t.Error("they come as", pids, "and not as", want, toldWorld(got))
		}
		askRound(t, "given", w, roundByRules(w))
	}
	// As many as there may be, of data and of what tells of it: none is left.
	for _, w := range []impl.World{bareWorld(3), fairWorld(3), fullWorld(3)} {
		for data := range mostGrams + 1 {
			for acks := range mostGrams + 1 - data {
				w.Grams = slices.Concat(gramsOf(data, dataGram(0, 2, impl.Piece{No: 3, Text: "x"})), gramsOf(acks, ackGram(2, 0, 2)))
				if got := impl.Round(w); len(got.Grams) != 0 {
					t.Error("some are left", got.Grams)
				}
			}
		}
	}
}

// All is shown ahead of all that is given: what is sent on by what is handed up is shown in the next round.
func TestShownAheadOfGiven(t *testing.T) {
	ways(func(from int, to int) {
		word := wordBytes(5, aWord)
		for _, there := range []int{from, 3 - from - to} {
			w := bareWorld(3)
			w.Homes = homesOf(there, 2, 5)
			w.Homes[1].P = posted(aProc(6), "")
			w.Homes[1].P.Pid = 5
			w.Homes[1].P.Box = nil
			setWay(&w, 3*from+to, 0, word)
			first := turnedWorld(w, func(w *impl.World) {
				passed(w, 3*from+to)
				addMail(w, 3*to+there, word)
			})
			askRound(t, "sent on", w, first)
			askRoundTurns(t, "sent on, one round on", first, func(w *impl.World) {
				passed(w, 3*to+there)
				w.Homes[1].P.Box = words(aWord)
			})
		}
	})
}

// Worlds in which there is as much of all as there may be, or nearly.
func TestRoundsOfFullWorlds(t *testing.T) {
	for places := 1; places <= mostPlaces; places++ {
		crowded, _ := crowdedWorld(places)
		full := fullWorld(places)
		// As full as it was, but with less to hold against each other.
		setLink(&full, places*places-1, aLink(530, 500, 510, 511, 513))
		nearly := turnedWorld(full, func(w *impl.World) {
			w.Homes, w.Grams, w.Parked = w.Homes[1:], w.Grams[:mostGrams-1], w.Parked[1:]
		})
		for why, w := range map[string]impl.World{"crowded": crowded, "full": full, "nearly full": nearly, "fair": fairWorld(places)} {
			for day := range 4 {
				next := roundByRules(w)
				askRound(t, fmt.Sprint(why, ", of ", places, ", day ", day), w, next)
				w = next
			}
		}
		lastWay(&full, 0)
		if w := impl.Days(full, mostDays); !impl.WorldOk(w) || len(w.Grams) != 0 {
			t.Error("full", toldWorld(w))
		}
	}
	// A full box takes no more; what is parked with no room is lost, and no process comes where there is no room.
	w := handing(0, 1, wordBytes(3, aWord), procMove(5))
	w.Homes[1].P.Box = mail(mostBox)
	w.Parked = slices.Repeat([]impl.Parked{{At: 1, To: 6, Text: aWord}}, mostParked)
	w.Homes = append(w.Homes, homesOf(0, 21, 22, 23, 24, 25, 26)...)
	askRoundTurns(t, "full where it comes to", w, func(w *impl.World) {
		dayOfAll(w)
		passed(w, 1)
		w.Grams = nil
	})
}

// Any worlds, near the limits or not, and what comes of them in some days.
func TestAnyRoundsByRules(t *testing.T) {
	t.Parallel()
	r := &aRandom{x: 1601}
	turnedBy, broken := 0, 0
	for range 500 {
		w := r.someBusy()
		want := w
		for n := 1; n <= 3; n++ {
			next := roundByRules(want)
			askRound(t, "any", want, next)
			askDays(t, "any", w, n, next)
			if !sameWorld(next, want) {
				turnedBy++
			}
			want = next
		}
		r.breakWorld(&w)
		if !worldByRules(w) {
			askNoDays(t, "broken", w)
			broken++
		}
		if t.Failed() {
			return
		}
	}
	if turnedBy < 800 || broken < 200 {
		t.Error("so many were turned, and broken", turnedBy, broken)
	}
}

// New worlds of lively programs, with words and all: each round is as the rules tell, and all judges hold behind it.
func TestRoundsOfLivelyPrograms(t *testing.T) {
	n := tally{}
	for _, text := range livelyPrograms() {
		for places := 1; places <= mostPlaces; places++ {
			w := programWorld(t, places, text)
			for day := range 15 {
				next := roundByRules(w)
				why := fmt.Sprint(text, ", of ", places, ", day ", day)
				askRound(t, why, w, next)
				askFairBehind(t, why, w, next)
				if len(next.Grams) > 0 || !impl.WorldOk(next) {
					t.Error(why, "some is left", toldWorld(next))
				}
				n.see(w, giveOf(0), next, isDone)
				w = next
			}
			if t.Failed() {
				return
			}
		}
	}
	n.least(t, map[string]int{"came": 50, "several at once": 50, "one": 150, "sent on": 200})
}

// roundsOf: the worlds of a row of rounds, the first one as it is.
func roundsOf(w impl.World, count int) []impl.World {
	list := []impl.World{w}
	for range count {
		list = append(list, impl.Round(list[len(list)-1]))
	}
	return list
}

func TestDays(t *testing.T) {
	t.Parallel()
	for places := 1; places <= mostPlaces; places++ {
		for _, w := range []impl.World{counters(t, places, 3), programWorld(t, places, roaming(places))} {
			list := roundsOf(w, mostDays+2)
			if sameWorld(list[mostDays-1], list[mostDays]) || sameWorld(list[mostDays], list[mostDays+1]) {
				t.Fatal("it stands still")
			}
			for n := -3; n <= mostDays+2; n++ {
				askDays(t, "each number", w, n, list[min(max(n, 0), mostDays)])
			}
			for _, n := range someDays() {
				askDays(t, "some days", w, n, list[min(max(n, 0), mostDays)])
			}
			// A part of them, and then the rest, or some of it.
			for _, part := range []int{0, 1, 7, 29, mostDays - 1, mostDays} {
				for _, n := range []int{0, 1, 2, mostDays - part} {
					if n <= mostDays-part {
						askDays(t, fmt.Sprint(part, " days before"), impl.Days(w, part), n, list[n+part])
					}
				}
			}
		}
	}
	w := counters(t, 2, 1)
	for n := range mostDays + 1 {
		p, _ := steppedTimes(w.Code, w.Homes[0].P, 2, n*stepsADay)
		if got := impl.Days(w, n).Homes[0].P; !sameProc(got, p) {
			t.Error("it counts otherwise in", n, toldProc(got))
		}
	}
}

// A day on which only one kind of deed is done has days behind it like all others.
func TestDaysOfWorldsThatDoLittle(t *testing.T) {
	long := bareWorld(2)
	setWay(&long, 2, 0, payloads(0, 30)...)
	told := bareWorld(2)
	setLink(&told, 1, aLink(9, 3, 6))
	told.Grams = []impl.Gram{ackGram(1, 0, 5)}
	still := bareWorld(2)
	setWay(&still, 0, 0, payloads(0, 30)...)
	still.Grams = []impl.Gram{ackGram(0, 0, 0)}
	for why, w := range map[string]impl.World{"steps alone": counters(t, 2, 1), "a long way": long, "told of, and then shown": told, "one is given": still, "asked once": askersWorld(1, homeAt(0, asker(1, 14)))} {
		for n := range 12 {
			askDays(t, why, w, n, daysByRules(w, n))
		}
	}
	if w := impl.Days(long, 7); w.Links[2].Acked != 28 {
		t.Error("seven days of a long way", toldWorld(w))
	}
	if w := impl.Days(long, 8); w.Links[2].Acked != 30 || len(w.Took[2]) != 30 {
		t.Error("eight days of a long way", toldWorld(w))
	}
}

// A journey is a program that prints and goes about, the least number of places it takes, and what it prints.
type journey struct {
	text   string
	places int
	told   []string
}

func journeys() []journey {
	count := []string{}
	for i := range mostOut {
		count = append(count, fmt.Sprint(mostOut-i))
	}
	list := []journey{
		{"(print 1)", 1, words("1")},
		{"5", 1, nil},
		{"(do (print 1) (go 0) (print 2) (go 0) (print 3))", 1, words("1", "2", "3")},
		{"(do (print 1) (go 1) (print 2))", 2, words("1", "2")},
		{"(do (print 1) (go 2) (print 2) (go 0) (print 3))", 3, words("1", "2", "3")},
		{"(do (go 1) (go 0) (go 1) (go 2) (go 1) (print (quote (a b))))", 3, words("(a b)")},
		{"(do (print (self)) (go 1) (print (self)))", 2, words("#pid1", "#pid1")},
		{"(print (go 1))", 2, words("()")},
		{"(print (cons (print 1) (go 1)))", 2, words("1", "(())")},
		// It counts, with more steps than a round has.
		{"(define (down n) (if (= n 0) 0 (do (print n) (down (- n 1))))) (down 40)", 1, count},
		{"(define (down n) (if (= n 0) 0 (do (print n) (go (- 1 0)) (go 0) (down (- n 1))))) (down 20)", 2, count[20:]},
		{"(define (fib n) (if (< n 2) n (+ (fib (- n 1)) (fib (- n 2))))) (do (print (fib 7)) (go 1) (print (fib 6)))", 2, words("13", "8")},
		// What is on the stack, what was bound and functions go along.
		{"(print (+ 1 (do (go 1) (* 2 (do (go 2) 20)))))", 3, words("41")},
		{"(let x 5 (do (go 1) (print x) (let y (cons x x) (do (go 0) (print y) (print x)))))", 2, words("5", "(5 . 5)", "5")},
		{"(let n 3 (let f (fn (x) (print (+ n x))) (do (f 1) (go 1) (f 2) (go 0) (f 3))))", 2, words("4", "5", "6")},
		{"(define (tour l) (if (null? l) 0 (do (print (car l)) (go (car l)) (tour (cdr l))))) (tour (quote (1 2 0 2 1 0 1)))", 3, words("1", "2", "0", "2", "1", "0", "1")},
		{"(define (map f l) (if (null? l) () (cons (f (car l)) (map f (cdr l))))) (print (map (fn (x) (do (go x) (* x 10))) (quote (1 2 0 1))))", 3, words("(10 20 0 10)")},
		// What is caught is called elsewhere, and comes back to where it was caught, at the other place.
		{"(let k (callcc (fn (k) k)) (do (go 1) (if (pair? k) (print (car k)) (do (print 0) (k (quote (7)))))))", 2, words("0", "7")},
		{"(define (loop p) (do (print (car p)) (go (- 2 (car p))) (if (< (car p) 2) ((cdr p) (cons (+ 1 (car p)) (cdr p))) 9))) (loop (callcc (fn (k) (cons 0 k))))", 3, words("0", "1", "2")},
		{"(do (print 1) (callcc (fn (k) (do (go 1) (print 2) (k 0) (print 3)))) (print 4))", 2, words("1", "2", "4")},
		// What is too long to be written is printed as the empty text.
		{"(define (d n) (if (= n 0) (quote a) (let x (d (- n 1)) (cons x x)))) (do (print (d 9)) (go 1) (print (d 1)))", 2, words("", "(a . a)")},
	}
	for _, x := range slices.Concat(programsThatEnd(), programsThatCatch()) {
		if !strings.Contains(x.text, "(go ") {
			list = append(list, journey{x.text, 1, x.told})
		}
	}
	return list
}

// isOver: the process 1 is at home, and came to its end or failed.
func isOver(w impl.World) bool {
	home := homeByRules(w, 1)
	return home >= 0 && (w.Homes[home].P.M.State == impl.MsDone || w.Homes[home].P.M.State == impl.MsFail)
}

// askPrintsAsAlone lets rounds go by until process 1 is over: what it prints on its way is the beginning of what is told alone, and in the end it is all of that. It tells how many rounds there were.
func askPrintsAsAlone(t *testing.T, why string, w impl.World, told []string) int {
	t.Helper()
	begun, count := w, 0
	for ; !isOver(w) && count < 200; count++ {
		w = impl.Round(w)
		if out := impl.Prints(w, 1); !isBeginning(out, told) {
			t.Fatalf("%s: behind %d days it has printed %q, and alone %q", why, count+1, out, told)
		}
	}
	askPrints(t, fmt.Sprint(why, ", behind ", count, " days"), w, 1, told)
	if !isOver(w) || !impl.JudgeAll(w) || len(w.Grams) > 0 {
		t.Errorf("%s: behind %d days it is not over: %s", why, count, toldWorld(w))
	}
	if count <= mostDays {
		askDays(t, why, begun, count, w)
		askPrints(t, why+", behind all days", impl.Days(begun, mostDays), 1, told)
	}
	return count
}

// Promise 16.
func TestProgramsPrintAsAlone(t *testing.T) {
	days := map[int]int{}
	for _, x := range journeys() {
		c := programOf(t, x.text)
		m, told, _ := impl.Alone(c, "main", 2000)
		if m.State != impl.MsDone || !slices.Equal(told, x.told) {
			t.Errorf("%s: alone it comes to %s, and tells %q", x.text, toldMachine(m, 0), told)
		}
		for places := x.places; places <= mostPlaces; places++ {
			count := askPrintsAsAlone(t, fmt.Sprint(x.text, ", of ", places), programWorld(t, places, x.text), told)
			days[min(count, 5)]++
		}
	}
	for count := 1; count <= 5; count++ {
		if days[count] == 0 {
			t.Error("so many took so many days", days)
		}
	}
}

// A place that is not there ends it, in the world alone.
func TestJourneysToNoPlace(t *testing.T) {
	for _, x := range journeys() {
		for places := 1; places < x.places; places++ {
			w := impl.Days(programWorld(t, places, x.text), mostDays)
			if p := w.Homes[0].P; p.M.State != impl.MsFail || p.M.Ask != impl.FlType || !isBeginning(p.Out, x.told) {
				t.Errorf("%s: with %d places it comes to %s", x.text, places, toldProc(p))
			}
		}
	}
}

// One that fails, waits or asks for others prints till then what it prints alone.
func TestWhatDoesNotEndPrintsAsAloneTillThen(t *testing.T) {
	for _, x := range programsThatDoNotEnd() {
		w := programWorld(t, 3, x.text)
		told := x.told
		switch x.asks {
		case "":
			askPrintsAsAlone(t, x.text, w, told)
			continue
		case "send":
			// It sends to itself, and goes on.
			told = append(slices.Clone(told), "2")
		}
		askPrints(t, x.text, impl.Days(w, mostDays), 1, told)
	}
	// More than MaxOut are not printed: it fails there.
	for _, count := range []int{mostOut - 1, mostOut, mostOut + 1, mostOut + 9} {
		text := fmt.Sprintf("(define (down n) (if (= n 0) 0 (do (print n) (down (- n 1))))) (down %d)", count)
		_, told, _ := impl.Alone(programOf(t, text), "main", 2000)
		if len(told) != count {
			t.Fatal("alone it tells", told)
		}
		askPrintsAsAlone(t, text, programWorld(t, 2, text), told[:min(count, mostOut)])
	}
}

// With as many others as there may be, who go about as it does, each prints what it prints alone.
func TestJourneysAmongOthers(t *testing.T) {
	for _, x := range journeys()[:24] {
		for places := x.places; places <= mostPlaces; places++ {
			w := programWorld(t, places, x.text)
			for pid := 2; pid <= mostProcs; pid++ {
				other, _ := impl.ProcNew(w.Code, "main", pid)
				w.Homes = append(w.Homes, homeAt(pid%places, other))
			}
			w.Next = mostProcs + 1
			w = impl.Days(impl.Days(w, mostDays), mostDays)
			for pid := 1; pid <= mostProcs; pid++ {
				told := slices.Clone(x.told)
				for i, s := range told {
					told[i] = strings.ReplaceAll(s, "#pid1", fmt.Sprint("#pid", pid))
				}
				askPrints(t, fmt.Sprint(x.text, ", of ", places), w, pid, told)
			}
		}
	}
}

// trip: as talk, but it goes to places that are there.
func (r *aRandom) trip(deep int, places int) string {
	if deep == 0 {
		return words("1", "x", "x", "(self)", "(quote a)", "#f", "7", fmt.Sprint("(go ", r.below(places), ")"))[r.below(8)]
	}
	e := func() string { return r.trip(deep-1-r.below(2)*r.below(deep), places) }
	switch kind := r.below(12); kind {
	case 0, 1:
		return "(print " + e() + ")"
	case 2, 3:
		return fmt.Sprintf("(do (go %d) %s)", r.below(places), e())
	case 4:
		return "(+ 1 " + words("2", "x", "(f 3)")[r.below(3)] + ")"
	default:
		return nested(kind, e)
	}
}

func TestAnyProgramsPrintAsAlone(t *testing.T) {
	r := &aRandom{x: 1603}
	n := tally{}
	for range 900 {
		places := 1 + r.below(mostPlaces)
		text := "(define (f x) " + strings.ReplaceAll(r.trip(2, places), "(f ", "(print ") + ") (define (main) (let x 5 " + r.trip(6, places) + "))"
		p, list, how, _ := impl.Read(impl.Pool{}, text)
		c, made, _ := impl.Compile(p, list)
		if how != impl.RdDone || made != impl.CpDone {
			continue
		}
		m, told, _ := impl.Alone(c, "main", 2000)
		if len(told) > mostOut || m.State != impl.MsDone && m.State != impl.MsFail {
			continue
		}
		w, _ := impl.WorldNew(c, places)
		count := askPrintsAsAlone(t, fmt.Sprint(text, ", of ", places), w, told)
		if w = impl.Days(w, mostDays); count <= mostDays && w.Homes[0].P.M.State != m.State {
			t.Errorf("%s: it comes to %s, and alone to %s", text, toldProc(w.Homes[0].P), toldMachine(m, 0))
		}
		n[fmt.Sprint("state ", m.State)]++
		n["told"] += len(told)
		n["days"] += count
		for number := range w.Links {
			n["went"] += len(w.Took[number])
		}
		if t.Failed() {
			return
		}
	}
	n.least(t, map[string]int{"state 2": 250, "state 3": 20, "told": 600, "days": 1500, "went": 600})
}

// What others are told comes, too, and what is spawned goes about.
func TestDaysWithWords(t *testing.T) {
	for _, x := range []struct {
		text  string
		first []string
		other []string
	}{
		{"(let me (self) (do (spawn (fn () (do (go 1) (send me 42)))) (print (recv))))", words("42"), nil},
		{"(let a (spawn (fn () (do (go 1) (print (recv)) (send (recv) 9)))) (do (send a (quote hello)) (send a (self)) (print (recv))))", words("9"), words("hello")},
		// The other one waits for a third word at its end.
		{livelyPrograms()[0], words("3", "2"), nil},
		{livelyPrograms()[6], nil, words("((b c) b c)")},
	} {
		for places := 2; places <= mostPlaces; places++ {
			w := impl.Days(programWorld(t, places, x.text), mostDays)
			askPrints(t, x.text, w, 1, x.first)
			askPrints(t, x.text, w, 2, x.other)
			askWhere(t, x.text, w, 2, 1)
		}
	}
}

// worldsForDays: of all sorts, right and not right.
func worldsForDays(t *testing.T) map[string]impl.World {
	list := worldsToJudge(t)
	for places := 1; places <= mostPlaces; places++ {
		full := fullWorld(places)
		setLink(&full, places*places-1, aLink(530, 500, 510, 511, 513))
		list[fmt.Sprint("full, of ", places)] = full
		list[fmt.Sprint("counting, of ", places)] = counters(t, places, 5)
	}
	for i, x := range journeys()[:20] {
		list[fmt.Sprint("journey ", i)] = programWorld(t, 3, x.text)
	}
	r := &aRandom{x: 1607}
	for i := range 30 {
		list[fmt.Sprint("busy ", i)] = r.someBusy()
	}
	return list
}

// Nothing is written into a world nor into the room behind it; and no list of an answer shares memory with it, with another list of it, or with another answer.
func TestNothingIsWrittenByDays(t *testing.T) {
	for why, w := range worldsForDays(t) {
		w = roomyWorld(w)
		before := memoryTold(w)
		// All answers are kept to the end: the memory of one that is gone may be given to another one.
		answers := []impl.World{impl.Round(w), impl.Round(w)}
		for _, n := range []int{-1, 0, 1, 2, 5} {
			answers = append(answers, impl.Days(w, n))
		}
		if memoryTold(w) != before {
			t.Errorf("%s: an argument was written into, or the room behind it", why)
		}
		all := spansOf("world", reflect.ValueOf(w))
		for i, next := range answers {
			all = append(all, spansOf(fmt.Sprint("answer ", i), reflect.ValueOf(next))...)
		}
		if two := shared(all); two != nil {
			t.Errorf("%s: %q share memory", why, two)
		}
		runtime.KeepAlive(answers)
		runtime.KeepAlive(w)
	}
}

// askedByMany lets it be asked by one, by many at once, and where few go on at a time.
func askedByMany(ask func()) {
	ask()
	var all sync.WaitGroup
	for range 8 {
		all.Go(ask)
	}
	all.Wait()
	for _, procs := range []int{1, 2} {
		was := runtime.GOMAXPROCS(procs)
		ask()
		runtime.GOMAXPROCS(was)
	}
}

// askNothingGoesOn: no goroutine is in the program.
func askNothingGoesOn(t *testing.T) {
	t.Helper()
	stacks := make([]byte, 1<<20)
	if all := string(stacks[:runtime.Stack(stacks, true)]); strings.Contains(all, "/impl.") {
		t.Errorf("something of the program goes on: %s", all)
	}
}

// Each answers the same however often it is asked, by one or by many at once; and what was answered stays.
func TestDaysAnswerTheSame(t *testing.T) {
	worlds := worldsForDays(t)
	first, kept := map[string]impl.World{}, map[string]impl.World{}
	for why, w := range worlds {
		first[why] = impl.Days(w, 3)
		kept[why] = cloneWorld(first[why])
	}
	ask := func() {
		for why, w := range worlds {
			if got := impl.Days(w, 3); !sameWorld(got, kept[why]) || !sameWorld(impl.Days(impl.Round(w), 2), kept[why]) {
				t.Errorf("%s: it tells %s\nand not %s", why, toldWorld(got), toldWorld(kept[why]))
			}
		}
	}
	askedByMany(ask)
	for why, w := range first {
		impl.Days(w, 5)
		if !sameWorld(w, kept[why]) {
			t.Errorf("%s: what was answered is turned", why)
		}
	}
}

// No goroutine is left when it has answered.
func TestDaysLeaveNothingBehind(t *testing.T) {
	for _, w := range worldsForDays(t) {
		// What is left waiting in a bubble makes it panic when all others have ended.
		synctest.Test(t, func(t *testing.T) { impl.Round(w) })
		synctest.Test(t, func(t *testing.T) { impl.Days(w, 2) })
	}
	askNothingGoesOn(t)
}
