package tests

import (
	"fmt"
	"math"
	"slices"
	"testing"

	"loop.example/g00189/impl"
)

const (
	lastTime = 1000000000
	lastId   = 1000000000
)

func aLease(id int, who int, until int) impl.Lease {
	return impl.Lease{Id: id, Who: who, Until: until}
}

func leaseList(list ...impl.Lease) []impl.Lease { return list }

// manyLeases: so many, each of another Id and Who.
func manyLeases(n int) []impl.Lease {
	var list []impl.Lease
	for i := range n {
		list = append(list, aLease(1+i/3, i%3, 100+i))
	}
	return list
}

// leasesByRules: whether a list is right, as the document tells it, one by one.
func leasesByRules(list []impl.Lease) bool {
	known := map[string]bool{}
	for _, l := range list {
		name := fmt.Sprint(l.Id, " ", l.Who)
		if l.Id < 1 || l.Id > 1000000000 || l.Who < 0 || l.Who > 9 || l.Until < 0 || l.Until > 1000000000 || known[name] {
			return false
		}
		known[name] = true
	}
	return len(list) <= 20
}

func isOf(id int, who int) func(l impl.Lease) bool {
	return func(l impl.Lease) bool { return l.Id == id && l.Who == who }
}

func leasedByRules(list []impl.Lease, id int, who int, now int) ([]impl.Lease, impl.Grip, bool) {
	if !leasesByRules(list) {
		return nil, impl.Grip{}, false
	}
	if now < 0 || now > 1000000000 {
		return list, impl.Grip{}, false
	}
	next := slices.Clone(list)
	if at := slices.IndexFunc(next, isOf(id, who)); at >= 0 {
		next[at].Until = now + 20
	} else {
		next = append(next, aLease(id, who, now+20))
	}
	if !leasesByRules(next) {
		return list, impl.Grip{}, false
	}
	return next, impl.Grip{Id: id, Until: now + 17}, true
}

func droppedByRules(list []impl.Lease, now int) []impl.Lease {
	if !leasesByRules(list) {
		return nil
	}
	return slices.DeleteFunc(slices.Clone(list), func(l impl.Lease) bool { return l.Until < now })
}

func thingKeptByRules(list []impl.Lease, id int, now int) bool {
	return slices.ContainsFunc(droppedByRules(list, now), func(l impl.Lease) bool { return l.Id == id })
}

func givenByRules(list []impl.Lease, id int, who int, now int) ([]impl.Lease, bool) {
	if !leasesByRules(list) {
		return nil, false
	}
	if !slices.ContainsFunc(droppedByRules(list, now), isOf(id, who)) {
		return list, false
	}
	return slices.DeleteFunc(slices.Clone(list), isOf(id, who)), true
}

func askLeasesOk(t *testing.T, why string, list []impl.Lease, want bool) {
	t.Helper()
	if got := impl.LeasesOk(list); got != want {
		t.Errorf("%s: LeasesOk of %v tells %v", why, list, got)
	}
}

func askLease(t *testing.T, why string, list []impl.Lease, id int, who int, now int, want []impl.Lease, grip impl.Grip, done bool) {
	t.Helper()
	if got, g, ok := impl.LeaseAsk(list, id, who, now); ok != done || g != grip || !slices.Equal(got, want) {
		t.Errorf("%s: LeaseAsk of %d, %d, %d in %v\ntells %v, %v, %v\nnot %v, %v, %v", why, id, who, now, list, ok, g, got, done, grip, want)
	}
}

// askNoLease: false, the list as it was, and no grip.
func askNoLease(t *testing.T, why string, list []impl.Lease, id int, who int, now int) {
	t.Helper()
	askLease(t, why, list, id, who, now, list, impl.Grip{}, false)
}

func askDrop(t *testing.T, why string, list []impl.Lease, now int, want []impl.Lease) {
	t.Helper()
	if got := impl.LeaseDrop(list, now); !slices.Equal(got, want) {
		t.Errorf("%s: LeaseDrop at %d of %v\ntells %v\nnot %v", why, now, list, got, want)
	}
}

func askThing(t *testing.T, why string, list []impl.Lease, id int, now int, want bool) {
	t.Helper()
	if got := impl.Kept(list, id, now); got != want {
		t.Errorf("%s: Kept of %d at %d in %v tells %v", why, id, now, list, got)
	}
}

func askGood(t *testing.T, why string, g impl.Grip, now int, want bool) {
	t.Helper()
	if got := impl.GripGood(g, now); got != want {
		t.Errorf("%s: GripGood of %v at %d tells %v", why, g, now, got)
	}
}

func askGive(t *testing.T, why string, list []impl.Lease, id int, who int, now int, want []impl.Lease, done bool) {
	t.Helper()
	if got, ok := impl.LeaseGive(list, id, who, now); ok != done || !slices.Equal(got, want) {
		t.Errorf("%s: LeaseGive of %d, %d, %d in %v\ntells %v, %v\nnot %v, %v", why, id, who, now, list, ok, got, done, want)
	}
}

// brokenLeases: each is wrong in one way alone, where that can be.
func brokenLeases() map[string][]impl.Lease {
	full := manyLeases(20)
	return map[string][]impl.Lease{
		"one more than MaxLeases":      manyLeases(21),
		"far more than MaxLeases":      manyLeases(500),
		"an Id of 0":                   leaseList(aLease(0, 1, 5)),
		"a zero lease":                 leaseList(impl.Lease{}),
		"an Id below 0":                leaseList(aLease(-1, 1, 5)),
		"an Id far below 0":            leaseList(aLease(-1000000000, 1, 5)),
		"the lowest Id of all":         leaseList(aLease(math.MinInt, 1, 5)),
		"an Id above MaxInt":           leaseList(aLease(1000000001, 1, 5)),
		"the greatest Id of all":       leaseList(aLease(math.MaxInt, 1, 5)),
		"a Who below 0":                leaseList(aLease(5, -1, 5)),
		"the lowest Who of all":        leaseList(aLease(5, math.MinInt, 5)),
		"a Who of 10":                  leaseList(aLease(5, 10, 5)),
		"the greatest Who of all":      leaseList(aLease(5, math.MaxInt, 5)),
		"an Until below 0":             leaseList(aLease(5, 1, -1)),
		"the lowest Until of all":      leaseList(aLease(5, 1, math.MinInt)),
		"an Until above MaxInt":        leaseList(aLease(5, 1, 1000000001)),
		"an Until by Term above":       leaseList(aLease(5, 1, 1000000020)),
		"the greatest Until of all":    leaseList(aLease(5, 1, math.MaxInt)),
		"two of both":                  leaseList(aLease(5, 1, 30), aLease(5, 1, 40)),
		"two alike":                    leaseList(aLease(5, 1, 30), aLease(5, 1, 30)),
		"two of both, one between":     leaseList(aLease(5, 1, 30), aLease(5, 2, 30), aLease(5, 1, 40)),
		"two of both at the end":       leaseList(aLease(4, 0, 9), aLease(5, 1, 30), aLease(5, 1, 40)),
		"three of both":                leaseList(aLease(5, 1, 30), aLease(5, 1, 31), aLease(5, 1, 32)),
		"two of both, Who 0":           leaseList(aLease(5, 0, 30), aLease(5, 0, 40)),
		"two of both at both limits":   leaseList(aLease(1000000000, 9, 30), aLease(1000000000, 9, 40)),
		"a full list, the last twice":  append(manyLeases(19), full[18]),
		"a full list, the first twice": append(manyLeases(19), full[0]),
		"a full list, the last wrong":  append(manyLeases(19), aLease(0, 0, 0)),
		"the first wrong":              leaseList(aLease(0, 1, 30), aLease(5, 1, 30)),
		"one between wrong":            leaseList(aLease(4, 1, 30), aLease(5, 10, 30), aLease(6, 1, 30)),
	}
}

// rightLeases: such as are right just so, at the edges and within.
func rightLeases() map[string][]impl.Lease {
	return map[string][]impl.Lease{
		"nothing":                    nil,
		"an empty list":              {},
		"one":                        leaseList(aLease(5, 2, 30)),
		"one below MaxLeases":        manyLeases(19),
		"just MaxLeases":             manyLeases(20),
		"an Id of 1":                 leaseList(aLease(1, 2, 30)),
		"an Id of MaxInt":            leaseList(aLease(1000000000, 2, 30)),
		"a Who of 0":                 leaseList(aLease(5, 0, 30)),
		"a Who of 9":                 leaseList(aLease(5, 9, 30)),
		"an Until of 0":              leaseList(aLease(5, 2, 0)),
		"an Until of MaxInt":         leaseList(aLease(5, 2, 1000000000)),
		"all at their least":         leaseList(aLease(1, 0, 0)),
		"all at their most":          leaseList(aLease(1000000000, 9, 1000000000)),
		"two of one Id":              leaseList(aLease(5, 1, 30), aLease(5, 2, 30)),
		"two of one Who":             leaseList(aLease(5, 1, 30), aLease(6, 1, 30)),
		"two crosswise":              leaseList(aLease(5, 6, 30), aLease(6, 5, 30)),
		"two of one Until":           leaseList(aLease(5, 1, 30), aLease(6, 2, 30)),
		"not in order":               leaseList(aLease(7, 1, 30), aLease(5, 4, 50), aLease(7, 0, 10), aLease(2, 4, 40)),
		"several of an Id, some old": leaseList(aLease(5, 1, 20), aLease(5, 2, 40), aLease(6, 1, 30), aLease(5, 3, 30)),
	}
}

func allLeases() map[string][]impl.Lease {
	all := rightLeases()
	for why, list := range brokenLeases() {
		all[why] = list
	}
	return all
}

// oddTimes: such as are no times, and such as wrap round when something is added or taken away.
func oddTimes() []int {
	return []int{
		math.MinInt, math.MinInt + 1, math.MinInt + 3, math.MinInt + 20, math.MinInt + 1000000000, -1 << 40, -1000000001, -1000000000, -21, -20, -17, -4, -3, -2, -1,
		1000000001, 1000000003, 1000000020, 1 << 40, math.MaxInt - 1000000000, math.MaxInt - 20, math.MaxInt - 19, math.MaxInt - 17, math.MaxInt - 3, math.MaxInt - 1, math.MaxInt,
	}
}

func TestLeaseLimits(t *testing.T) {
	if impl.Term != 20 || impl.Skew != 3 || impl.MaxLeases != 20 {
		t.Error("a limit is another one", impl.Term, impl.Skew, impl.MaxLeases)
	}
}

func TestLeasesOkAtEachEdge(t *testing.T) {
	for why, list := range rightLeases() {
		askLeasesOk(t, why, list, true)
		if !leasesByRules(list) {
			t.Errorf("%s: by the rules it is not right", why)
		}
	}
	for why, list := range brokenLeases() {
		askLeasesOk(t, why, list, false)
		if leasesByRules(list) {
			t.Errorf("%s: by the rules it is right", why)
		}
	}
}

func TestLeasesOkOfCounts(t *testing.T) {
	for n := range 45 {
		askLeasesOk(t, fmt.Sprint(n, " leases"), manyLeases(n), n <= 20)
	}
	// Each Who that there can be, of two Ids.
	var list []impl.Lease
	for i := range 20 {
		list = append(list, aLease(1+i/10, i%10, i))
		askLeasesOk(t, "each Who", list, true)
	}
}

// One lease that is twice in a list is found wherever the two stand.
func TestLeasesOkOfTwoAtEachPlace(t *testing.T) {
	for n := 2; n <= 20; n++ {
		for first := range n {
			for second := range first {
				list := manyLeases(n)
				list[second].Id, list[second].Who = list[first].Id, list[first].Who
				askLeasesOk(t, "two of both", list, false)
				list[second].Who = 9
				askLeasesOk(t, "two of one Id", list, true)
				list[second] = aLease(777, list[first].Who, 5)
				askLeasesOk(t, "two of one Who", list, true)
			}
		}
	}
}

// shortLists: all lists of at most so many of these leases, in each order.
func shortLists(of []impl.Lease, most int) [][]impl.Lease {
	lists := [][]impl.Lease{nil}
	for at := 0; at < len(lists) && len(lists[at]) < most; at++ {
		for _, l := range of {
			lists = append(lists, append(slices.Clone(lists[at]), l))
		}
	}
	return lists
}

func TestLeasesOkOfAllShortLists(t *testing.T) {
	var of []impl.Lease
	for _, id := range []int{0, 1, 2, lastId, lastId + 1} {
		for _, who := range []int{-1, 0, 9, 10} {
			for _, until := range []int{-1, 0, lastTime, lastTime + 1} {
				of = append(of, aLease(id, who, until))
			}
		}
	}
	right := 0
	for _, list := range shortLists(of, 2) {
		want := leasesByRules(list)
		askLeasesOk(t, "all", list, want)
		if want {
			right++
		}
	}
	// None; one of three Ids, two Who and two Untils; of two such those that are not of one Id and Who.
	if right != 1+12+12*10 {
		t.Error("so many are right", right)
	}
}

func TestLeaseOfOneThatIsNotThere(t *testing.T) {
	for why, list := range rightLeases() {
		if len(list) == 20 {
			continue
		}
		for _, now := range []int{0, 1, 10, 30, 500, lastTime - 21, lastTime - 20} {
			want := append(slices.Clone(list), aLease(77, 7, now+20))
			askLease(t, why, list, 77, 7, now, want, impl.Grip{Id: 77, Until: now + 17}, true)
		}
	}
}

// Another one that is of the same Id, or for the same Who, is left as it is.
func TestLeaseBesideAlmostTheSame(t *testing.T) {
	list := leaseList(aLease(5, 2, 30), aLease(6, 3, 31))
	askLease(t, "of one Id", list, 5, 3, 40, append(slices.Clone(list), aLease(5, 3, 60)), impl.Grip{Id: 5, Until: 57}, true)
	askLease(t, "for one Who", list, 6, 2, 40, append(slices.Clone(list), aLease(6, 2, 60)), impl.Grip{Id: 6, Until: 57}, true)
	askLease(t, "crosswise", list, 2, 5, 40, append(slices.Clone(list), aLease(2, 5, 60)), impl.Grip{Id: 2, Until: 57}, true)
}

// Its place stays, and its Until is new, whether that is later or earlier; one that is over is still there.
func TestLeaseOfOneThatIsThere(t *testing.T) {
	for why, list := range rightLeases() {
		for at, l := range list {
			for _, now := range []int{0, l.Until - 40, l.Until - 21, l.Until - 20, l.Until - 19, l.Until - 1, l.Until, l.Until + 1, l.Until + 100, lastTime - 20} {
				if now < 0 || now > lastTime-20 {
					continue
				}
				want := slices.Clone(list)
				want[at].Until = now + 20
				askLease(t, why, list, l.Id, l.Who, now, want, impl.Grip{Id: l.Id, Until: now + 17}, true)
			}
		}
	}
}

func TestLeaseOfAFullList(t *testing.T) {
	full := manyLeases(20)
	askNoLease(t, "another Id", full, 99, 0, 10)
	askNoLease(t, "another Who of an Id", full, 1, 3, 10)
	askNoLease(t, "another Id of a Who", full, 9, 1, 10)
	for at, l := range full {
		want := slices.Clone(full)
		want[at].Until = 30
		askLease(t, "one that is there", full, l.Id, l.Who, 10, want, impl.Grip{Id: l.Id, Until: 27}, true)
	}
	// What is over takes up room, too, until it is dropped.
	askNoLease(t, "all of them over", full, 99, 0, 1000)
	most := full[:19:19]
	askLease(t, "room for one", most, 99, 0, 10, append(most, aLease(99, 0, 30)), impl.Grip{Id: 99, Until: 27}, true)
}

func TestLeaseOfIdsAtTheirLimits(t *testing.T) {
	for why, list := range map[string][]impl.Lease{"nothing": nil, "some": leaseList(aLease(5, 2, 30), aLease(5, 3, 30))} {
		for _, id := range []int{1, 2, lastId - 1, lastId} {
			askLease(t, why, list, id, 4, 10, append(slices.Clone(list), aLease(id, 4, 30)), impl.Grip{Id: id, Until: 27}, true)
		}
		for _, id := range []int{math.MinInt, -lastId, -1, 0, lastId + 1, 1 << 40, math.MaxInt} {
			askNoLease(t, why, list, id, 4, 10)
		}
		for who := range 10 {
			askLease(t, why, list, 6, who, 10, append(slices.Clone(list), aLease(6, who, 30)), impl.Grip{Id: 6, Until: 27}, true)
		}
		for _, who := range []int{math.MinInt, -lastId, -1, 10, 11, 1 << 40, math.MaxInt} {
			askNoLease(t, why, list, 6, who, 10)
		}
	}
}

func TestLeaseAtTimesAtTheirLimits(t *testing.T) {
	list := leaseList(aLease(5, 2, 30), aLease(6, 3, lastTime))
	for _, now := range []int{0, 1, lastTime - 22, lastTime - 21, lastTime - 20} {
		askLease(t, "nothing there", nil, 5, 2, now, leaseList(aLease(5, 2, now+20)), impl.Grip{Id: 5, Until: now + 17}, true)
		askLease(t, "that one there", list, 6, 3, now, leaseList(list[0], aLease(6, 3, now+20)), impl.Grip{Id: 6, Until: now + 17}, true)
	}
	for now := lastTime - 19; now <= lastTime+25; now++ {
		askNoLease(t, "its end is no time", nil, 5, 2, now)
		askNoLease(t, "its end is no time, one there", list, 5, 2, now)
		askNoLease(t, "its end is no time, the last there", list, 6, 3, now)
	}
	for _, now := range oddTimes() {
		askNoLease(t, "no time", nil, 5, 2, now)
		askNoLease(t, "no time, one there", list, 5, 2, now)
		askNoLease(t, "no time, the last there", list, 6, 3, now)
		askNoLease(t, "no time, none there", list, 7, 3, now)
	}
	// From just below 0 on the end would be a time: it is now that is none.
	for now := -25; now < 0; now++ {
		askNoLease(t, "below 0", nil, 5, 2, now)
		askNoLease(t, "below 0, one there", list, 5, 2, now)
	}
}

func TestLeasesThatAreNotRight(t *testing.T) {
	for why, list := range brokenLeases() {
		ids := leaseList(append(slices.Clone(list)[:min(3, len(list))], aLease(5, 1, 0), aLease(77, 7, 0), aLease(0, -1, 0))...)
		for _, now := range append(oddTimes(), 0, 5, 6, 30, lastTime-20, lastTime) {
			for _, l := range ids {
				askLease(t, why, list, l.Id, l.Who, now, nil, impl.Grip{}, false)
				askThing(t, why, list, l.Id, now, false)
				askGive(t, why, list, l.Id, l.Who, now, nil, false)
			}
			askDrop(t, why, list, now, nil)
		}
	}
}

func TestNoLeases(t *testing.T) {
	for why, list := range map[string][]impl.Lease{"nothing": nil, "an empty list": {}} {
		for _, now := range append(oddTimes(), 0, 1, 30, lastTime) {
			askDrop(t, why, list, now, nil)
			for _, id := range []int{0, 1, 5, lastId, -1, math.MaxInt, math.MinInt} {
				askThing(t, why, list, id, now, false)
				askGive(t, why, list, id, 0, now, nil, false)
			}
		}
	}
}

// timesAbout: one that is far below an Until to one that is far above, and whether it is not over then.
func timesAbout(until int) map[int]bool {
	times := map[int]bool{until - 20: true, until - 3: true, until - 1: true, until: true, until + 1: false, until + 3: false, until + 20: false}
	for _, now := range oddTimes() {
		times[now] = now <= until
	}
	return times
}

func TestOneLeaseAtItsVeryEnd(t *testing.T) {
	for _, until := range []int{0, 1, 30, lastTime - 1, lastTime} {
		list := leaseList(aLease(5, 2, until))
		for now, good := range timesAbout(until) {
			if good {
				askDrop(t, "not over", list, now, list)
				askGive(t, "not over", list, 5, 2, now, nil, true)
			} else {
				askDrop(t, "over", list, now, nil)
				askGive(t, "over", list, 5, 2, now, list, false)
			}
			askThing(t, "one", list, 5, now, good)
			askThing(t, "another Id", list, 6, now, false)
			askThing(t, "its Who", list, 2, now, false)
			askGive(t, "another Who", list, 5, 3, now, list, false)
			askGive(t, "another Id", list, 6, 2, now, list, false)
			askGive(t, "crosswise", list, 2, 5, now, list, false)
			askGive(t, "no Who", list, 5, -1, now, list, false)
			askGive(t, "no Id", list, 0, 2, now, list, false)
			askGood(t, "a grip", impl.Grip{Id: 5, Until: until}, now, good)
		}
	}
}

// A grip is good by its Until alone, whatever that is.
func TestAnyGrip(t *testing.T) {
	times := append(oddTimes(), 0, 1, 17, 27, 28, lastTime-3, lastTime)
	for _, id := range []int{5, 0, -1, 1, lastId, lastId + 1, math.MinInt, math.MaxInt} {
		for _, until := range times {
			for _, now := range times {
				askGood(t, "any grip", impl.Grip{Id: id, Until: until}, now, until >= now)
			}
		}
	}
	askGood(t, "a zero grip", impl.Grip{}, 0, true)
	askGood(t, "a zero grip", impl.Grip{}, 1, false)
}

func TestDropLeavesTheOrder(t *testing.T) {
	list := leaseList(aLease(5, 1, 30), aLease(5, 2, 10), aLease(6, 1, 20), aLease(2, 9, 30), aLease(9, 0, 0))
	for _, x := range []struct {
		now  int
		want []impl.Lease
	}{
		{-1, list},
		{0, list},
		{1, leaseList(list[0], list[1], list[2], list[3])},
		{10, leaseList(list[0], list[1], list[2], list[3])},
		{11, leaseList(list[0], list[2], list[3])},
		{20, leaseList(list[0], list[2], list[3])},
		{21, leaseList(list[0], list[3])},
		{30, leaseList(list[0], list[3])},
		{31, nil},
		{math.MinInt, list},
		{math.MaxInt, nil},
	} {
		askDrop(t, "some", list, x.now, x.want)
	}
	full := manyLeases(20)
	for at := range 21 {
		askDrop(t, "a full list", full, 100+at, full[at:])
	}
}

// An Id that several have is kept up to the last Until of these.
func TestKeptForSeveral(t *testing.T) {
	list := leaseList(aLease(5, 1, 20), aLease(5, 2, 40), aLease(6, 1, 35), aLease(5, 3, 30), aLease(7, 3, 50))
	for now := -5; now < 70; now++ {
		askThing(t, "several", list, 5, now, now <= 40)
		askThing(t, "one", list, 6, now, now <= 35)
		askThing(t, "one, the last", list, 7, now, now <= 50)
		for _, id := range []int{0, 1, 2, 3, 4, 8, 20, 40, -5, lastId, math.MinInt, math.MaxInt} {
			askThing(t, "nobody has it", list, id, now, false)
		}
	}
}

func TestGive(t *testing.T) {
	list := leaseList(aLease(5, 1, 20), aLease(5, 2, 40), aLease(6, 1, 35), aLease(5, 3, 30), aLease(7, 3, 50))
	for at, l := range list {
		rest := slices.Concat(list[:at], list[at+1:])
		for now := l.Until - 25; now <= l.Until; now++ {
			askGive(t, "not over", list, l.Id, l.Who, now, rest, true)
		}
		for now := l.Until + 1; now < l.Until+25; now++ {
			askGive(t, "over", list, l.Id, l.Who, now, list, false)
		}
		askGive(t, "at the lowest time", list, l.Id, l.Who, math.MinInt, rest, true)
		askGive(t, "at the greatest time", list, l.Id, l.Who, math.MaxInt, list, false)
	}
	for _, now := range []int{-1, 0, 10, 20, 30, 60} {
		askGive(t, "an Id that another Who has", list, 6, 2, now, list, false)
		askGive(t, "an Id that others have", list, 5, 4, now, list, false)
		askGive(t, "an Id that nobody has", list, 4, 1, now, list, false)
		askGive(t, "a Who that there is not", list, 5, 10, now, list, false)
	}
	full := manyLeases(20)
	for at, l := range full {
		askGive(t, "a full list", full, l.Id, l.Who, l.Until, slices.Concat(full[:at], full[at+1:]), true)
	}
}

// One that is given back leaves others that are over where they are.
func TestGiveDropsNothing(t *testing.T) {
	list := leaseList(aLease(5, 1, 10), aLease(5, 2, 40), aLease(6, 1, 0))
	askGive(t, "others are over", list, 5, 2, 30, leaseList(list[0], list[2]), true)
	askLease(t, "others are over", list, 6, 1, 30, leaseList(list[0], list[1], aLease(6, 1, 50)), impl.Grip{Id: 6, Until: 47}, true)
	askLease(t, "others are over", list, 7, 1, 30, append(slices.Clone(list), aLease(7, 1, 50)), impl.Grip{Id: 7, Until: 47}, true)
}

func TestGivenTwice(t *testing.T) {
	list := leaseList(aLease(5, 1, 40), aLease(5, 2, 40))
	once, _ := impl.LeaseGive(list, 5, 1, 30)
	askThing(t, "once, there is another", once, 5, 30, true)
	askGive(t, "twice", once, 5, 1, 30, once, false)
	both, _ := impl.LeaseGive(once, 5, 2, 30)
	askThing(t, "both", both, 5, 30, false)
	askLease(t, "asked for again", both, 5, 1, 31, leaseList(aLease(5, 1, 51)), impl.Grip{Id: 5, Until: 48}, true)
}

// askLeasesByRules asks all of a list, at each of these times.
func askLeasesByRules(t *testing.T, why string, list []impl.Lease, ids []int, whos []int, times []int) {
	t.Helper()
	askLeasesOk(t, why, list, leasesByRules(list))
	for _, now := range times {
		askDrop(t, why, list, now, droppedByRules(list, now))
		for _, id := range ids {
			askThing(t, why, list, id, now, thingKeptByRules(list, id, now))
			for _, who := range whos {
				next, grip, done := leasedByRules(list, id, who, now)
				askLease(t, why, list, id, who, now, next, grip, done)
				left, given := givenByRules(list, id, who, now)
				askGive(t, why, list, id, who, now, left, given)
			}
		}
	}
}

func leaseTimes(list []impl.Lease) []int {
	times := append(oddTimes(), 0, 1, 20, lastTime-21, lastTime-20, lastTime-19, lastTime)
	for _, l := range list[:min(2, len(list))] {
		times = append(times, l.Until-21, l.Until-20, l.Until-19, l.Until-1, l.Until, l.Until+1)
	}
	slices.Sort(times)
	return slices.Compact(times)
}

func TestLeasesByRules(t *testing.T) {
	for why, list := range allLeases() {
		askLeasesByRules(t, why, list, []int{-1, 0, 1, 5, 6, 7, lastId, lastId + 1}, []int{-1, 0, 1, 2, 9, 10}, leaseTimes(list))
	}
	of := leaseList(aLease(1, 0, 0), aLease(1, 1, 19), aLease(1, 1, 20), aLease(2, 0, 20), aLease(2, 1, 21), aLease(2, 1, 22))
	for _, list := range shortLists(of, 3) {
		askLeasesByRules(t, "all of few", list, []int{1, 2, 3}, []int{0, 1, 2}, []int{-1, 0, 1, 2, 19, 20, 21, 22, 23})
	}
}

func TestAnyLeasesByRules(t *testing.T) {
	r := &aRandom{x: 1101}
	right := 0
	for range 6000 {
		from := []int{0, 0, 50, lastTime - 40}[r.below(4)]
		var list []impl.Lease
		for range r.below(r.below(24) + 1) {
			list = append(list, aLease(1+r.below(40), r.below(10), from+r.below(40)))
		}
		if len(list) > 0 && r.below(4) == 0 {
			l := &list[r.below(len(list))]
			*[]*int{&l.Id, &l.Who, &l.Until}[r.below(3)] = []int{-1, 0, 1, 9, 10, lastId, lastId + 1, math.MinInt, math.MaxInt}[r.below(9)]
		}
		one := aLease(1+r.below(40), r.below(10), 0)
		if len(list) > 0 && r.below(2) == 0 {
			one = list[r.below(len(list))]
		}
		askLeasesByRules(t, "any", list, []int{one.Id}, []int{one.Who}, []int{from + r.below(60) - 10, one.Until, one.Until + 1})
		if t.Failed() {
			return
		}
		if leasesByRules(list) {
			right++
		}
	}
	if right < 2000 || right > 5800 {
		t.Error("so many were right", right)
	}
}

// At the end of a grip the two clocks may be apart by Skew either way, and not by one more.
func TestGripAtItsVeryEnd(t *testing.T) {
	for _, asked := range []int{0, 1, 10, 500, lastTime - 20} {
		list, g, ok := impl.LeaseAsk(nil, 5, 2, asked)
		if !ok {
			t.Fatal("it is not asked for", asked)
		}
		for now := asked; now < asked+40; now++ {
			for ahead := -3; ahead <= 3; ahead++ {
				if impl.GripGood(g, now+ahead) && !impl.Kept(list, 5, now) {
					t.Errorf("asked for at %d: at %d it is not kept, and at %d its grip is good", asked, now, now+ahead)
				}
			}
		}
		// As good as it can be: where the clock of the one is behind by Skew, both end at once.
		askGood(t, "behind by Skew", g, asked+20-3, true)
		askThing(t, "behind by Skew", list, 5, asked+20, true)
		askGood(t, "over", g, asked+21-3, false)
		askThing(t, "over", list, 5, asked+21, false)
	}
}

// A leaser is one who asked for a thing, with all grips of it that were not given back.
type leaser struct {
	id    int
	who   int
	grips []impl.Grip
}

// A shelf is where things are kept: its list, its clock, and those who asked.
type shelf struct {
	list    []impl.Lease
	now     int
	leasers []leaser
}

func (s *shelf) cloned() *shelf {
	n := &shelf{slices.Clone(s.list), s.now, slices.Clone(s.leasers)}
	for i := range n.leasers {
		n.leasers[i].grips = slices.Clone(n.leasers[i].grips)
	}
	return n
}

func (s *shelf) ask(i int) {
	l := &s.leasers[i]
	list, g, ok := impl.LeaseAsk(s.list, l.id, l.who, s.now)
	s.list = list
	if ok {
		l.grips = append(l.grips, g)
	}
}

func (s *shelf) drop() { s.list = impl.LeaseDrop(s.list, s.now) }

// give tells what is not as promised; the empty text, when all is.
func (s *shelf) give(i int) string {
	l := &s.leasers[i]
	list, ok := impl.LeaseGive(s.list, l.id, l.who, s.now)
	s.list = list
	if !ok {
		if l.mayBeGood(s.now) {
			return "it can't be given back, and its grip is good"
		}
		return ""
	}
	l.grips = nil
	if slices.ContainsFunc(s.list, isOf(l.id, l.who)) {
		return "it was given back, and is kept for that one still"
	}
	return ""
}

// mayBeGood: at a clock that is apart from now by at most Skew one of the grips is good.
func (l leaser) mayBeGood(now int) bool {
	for ahead := -3; ahead <= 3; ahead++ {
		if l.isGood(now + ahead) {
			return true
		}
	}
	return false
}

func (l leaser) isGood(clock int) bool {
	return slices.ContainsFunc(l.grips, func(g impl.Grip) bool { return g.Id == l.id && impl.GripGood(g, clock) })
}

// forget leaves out grips that are over at all clocks, as these turn nothing any more.
func (s *shelf) forget() {
	for i := range s.leasers {
		l := &s.leasers[i]
		l.grips = slices.DeleteFunc(l.grips, func(g impl.Grip) bool { return !impl.GripGood(g, s.now-3) })
	}
}

func (s *shelf) wrong() string {
	if !impl.LeasesOk(s.list) {
		return "its list is not right"
	}
	for _, l := range s.leasers {
		if l.mayBeGood(s.now) && !impl.Kept(s.list, l.id, s.now) {
			return fmt.Sprint("the thing ", l.id, " is not kept, and a grip of ", l.who, " is good")
		}
	}
	return ""
}

func (s *shelf) told() string { return fmt.Sprintf("at %d %v, grips %v", s.now, s.list, s.leasers) }

// name tells two shelves apart: by the last grip of each, as that is good where any is.
func (s *shelf) name() string {
	b := fmt.Append(nil, s.now, s.list)
	for _, l := range s.leasers {
		if n := len(l.grips); n > 0 {
			b = fmt.Append(b, l.grips[n-1])
		}
		b = append(b, '/')
	}
	return string(b)
}

// following: whatever may happen next, up to a time.
func (s *shelf) following(t *testing.T, end int) []*shelf {
	var list []*shelf
	add := func(do func(n *shelf) string) {
		n := s.cloned()
		if wrong := do(n); wrong != "" {
			t.Fatalf("%s: %s", wrong, s.told())
		}
		list = append(list, n)
	}
	for i := range s.leasers {
		add(func(n *shelf) string { n.ask(i); return "" })
		add(func(n *shelf) string { return n.give(i) })
	}
	add(func(n *shelf) string { n.drop(); return "" })
	if s.now < end {
		add(func(n *shelf) string { n.now++; n.forget(); return "" })
	}
	return list
}

// allOfAShelf goes through all that can happen to a shelf up to a time, in every order, and tells how many shelves it came to.
func allOfAShelf(t *testing.T, start *shelf, end int) int {
	known := map[string]bool{start.name(): true}
	work := []*shelf{start}
	for len(work) > 0 {
		s := work[0]
		work = work[1:]
		if wrong := s.wrong(); wrong != "" {
			t.Fatalf("%s: %s", wrong, s.told())
		}
		for _, n := range s.following(t, end) {
			if name := n.name(); !known[name] {
				known[name] = true
				work = append(work, n)
			}
		}
	}
	return len(known)
}

// Of two that ask, for one thing and for two: from the beginning, and where the last times are passed.
func TestAllThatCanHappenToLeases(t *testing.T) {
	oneThing := []leaser{{id: 5, who: 2}, {id: 5, who: 3}}
	twoThings := []leaser{{id: 5, who: 2}, {id: 6, who: 2}}
	for _, leasers := range [][]leaser{oneThing, twoThings} {
		for _, from := range []int{0, lastTime - 27} {
			if count := allOfAShelf(t, &shelf{now: from, leasers: leasers}, from+31); count < 3000 {
				t.Error("so few shelves were come to", count)
			}
		}
	}
}

// A town is a shelf, and a clock for each of those who ask, which is at most Skew from that of the shelf; no clock goes back.
type town struct {
	*aRandom
	shelf
	clocks []int
}

func newTown(seed int, from int) *town {
	w := &town{aRandom: &aRandom{x: uint64(9000 + seed)}}
	w.now = from
	for i := range 30 {
		w.leasers = append(w.leasers, leaser{id: 1 + i/5, who: i % 5})
		w.clocks = append(w.clocks, from+w.below(7)-3)
	}
	return w
}

// pass lets the time of the shelf go on, and each clock as it likes.
func (w *town) pass() {
	w.now += w.below(4)
	for i, clock := range w.clocks {
		w.clocks[i] = max(clock, w.now+w.below(7)-3)
	}
}

func (w *town) something() string {
	i := w.below(len(w.leasers))
	switch kind := w.below(10); {
	case kind < 4:
		w.ask(i)
	case kind < 5:
		return w.give(i)
	case kind < 6:
		w.drop()
	default:
		w.pass()
	}
	return ""
}

// wrongByClocks asks each by its own clock, as it would do it itself.
func (w *town) wrongByClocks() (string, int) {
	good := 0
	for i, l := range w.leasers {
		if !l.isGood(w.clocks[i]) {
			continue
		}
		good++
		if !impl.Kept(w.list, l.id, w.now) {
			return fmt.Sprint("at ", w.clocks[i], " the grip of ", l.who, " is good, and ", l.id, " is not kept"), good
		}
	}
	return "", good
}

func TestLeasesAtManyClocks(t *testing.T) {
	most, full, refused := 0, 0, 0
	for seed := range 40 {
		from := []int{0, 7, 100000, lastTime - 600}[seed%4]
		w := newTown(seed, from)
		for range 1200 {
			wrong := w.something()
			if wrong == "" {
				wrong = w.wrong()
			}
			wrongByClocks, good := w.wrongByClocks()
			if wrong+wrongByClocks != "" {
				t.Fatalf("town %d: %s%s: %s", seed, wrong, wrongByClocks, w.told())
			}
			most = max(most, good)
			if len(w.list) == 20 {
				full++
			}
			if w.now > lastTime-20 {
				refused++
			}
		}
	}
	if most < 8 || full < 100 || refused < 100 {
		t.Error("so little happened", most, full, refused)
	}
}

func spoilLeases(list []impl.Lease) {
	list = list[:cap(list)]
	for i := range list {
		list[i] = aLease(-7777, -7777, -7777)
	}
}

// A leaseAnswer is all that a function may tell of leases.
type leaseAnswer struct {
	list []impl.Lease
	grip impl.Grip
	ok   bool
}

func (a leaseAnswer) equal(b leaseAnswer) bool {
	return slices.Equal(a.list, b.list) && a.grip == b.grip && a.ok == b.ok
}

func askLeaseMemory(t *testing.T, why string, list []impl.Lease, ask func(list []impl.Lease) leaseAnswer) {
	t.Helper()
	whole := append(slices.Clone(list), aLease(-71, 1, 1), aLease(-72, 2, 2), aLease(-73, 3, 3))
	before, given := slices.Clone(whole), whole[:len(list)]
	first := ask(given)
	kept := first
	kept.list = slices.Clone(first.list)
	spoilLeases(ask(given).list)
	if !slices.Equal(whole, before) {
		t.Errorf("%s: an argument was written into, or the answer shares its memory", why)
	}
	spoilLeases(whole)
	if !first.equal(kept) {
		t.Errorf("%s: the answer shares memory with an argument, or with another one", why)
	}
	if third := ask(list); !third.equal(kept) {
		t.Errorf("%s: something is kept from call to call", why)
	}
}

func TestNothingIsWrittenByLeases(t *testing.T) {
	for why, list := range allLeases() {
		askLeaseMemory(t, "LeasesOk, "+why, list, func(list []impl.Lease) leaseAnswer { return leaseAnswer{ok: impl.LeasesOk(list)} })
		ids := append(slices.Clone(list[:min(20, len(list))]), aLease(5, 1, 0), aLease(77, 7, 0), aLease(0, 0, 0))
		for _, l := range ids {
			for _, now := range []int{math.MinInt, -1, 0, l.Until, l.Until + 1, 50, lastTime - 20, lastTime, math.MaxInt} {
				name := fmt.Sprint(" of ", l.Id, ", ", l.Who, " at ", now, ", ", why)
				askLeaseMemory(t, "LeaseAsk"+name, list, func(list []impl.Lease) leaseAnswer {
					next, g, ok := impl.LeaseAsk(list, l.Id, l.Who, now)
					return leaseAnswer{next, g, ok}
				})
				askLeaseMemory(t, "LeaseGive"+name, list, func(list []impl.Lease) leaseAnswer {
					next, ok := impl.LeaseGive(list, l.Id, l.Who, now)
					return leaseAnswer{list: next, ok: ok}
				})
				askLeaseMemory(t, "LeaseDrop"+name, list, func(list []impl.Lease) leaseAnswer {
					return leaseAnswer{list: impl.LeaseDrop(list, now)}
				})
				askLeaseMemory(t, "Kept"+name, list, func(list []impl.Lease) leaseAnswer {
					return leaseAnswer{ok: impl.Kept(list, l.Id, now)}
				})
			}
		}
	}
}
