package tests

import (
	"fmt"
	"math"
	"slices"
	"strings"
	"testing"

	"loop.example/g00189/impl"
)

func payload(no int) string { return fmt.Sprint("payload ", no) }

func payloads(from int, below int) []string {
	var list []string
	for no := from; no < below; no++ {
		list = append(list, payload(no))
	}
	return list
}

func pieceOf(no int) impl.Piece { return impl.Piece{No: no, Text: payload(no)} }

func piecesOf(numbers ...int) []impl.Piece {
	var list []impl.Piece
	for _, no := range numbers {
		list = append(list, pieceOf(no))
	}
	return list
}

// aLink: one whose payloads are told by their numbers; its Queue is as long as it should be, where it can be.
func aLink(sent int, acked int, got int, held ...int) impl.Link {
	return impl.Link{Sent: sent, Acked: acked, Queue: payloads(acked, sent), Got: got, Held: piecesOf(held...)}
}

func sameLink(a impl.Link, b impl.Link) bool {
	return a.Sent == b.Sent && a.Acked == b.Acked && a.Got == b.Got && slices.Equal(a.Queue, b.Queue) && slices.Equal(a.Held, b.Held)
}

func cloneLink(l impl.Link) impl.Link {
	l.Queue, l.Held = slices.Clone(l.Queue), slices.Clone(l.Held)
	return l
}

func toldLink(l impl.Link) string { return fmt.Sprintf("%.900q", fmt.Sprintf("%+v", l)) }

// linkByRules: whether it is right, as the document tells it, one by one.
func linkByRules(l impl.Link) bool {
	for _, n := range []int{l.Sent, l.Acked, l.Got} {
		if n < 0 || n > 100000 {
			return false
		}
	}
	if l.Acked > l.Got || l.Got > l.Sent || len(l.Queue) != l.Sent-l.Acked || len(l.Queue) > 30 {
		return false
	}
	for i, p := range l.Held {
		if p.No <= l.Got || p.No >= l.Got+4 || p.No >= l.Sent || i > 0 && p.No <= l.Held[i-1].No {
			return false
		}
	}
	return true
}

func sentByRules(l impl.Link, text string) (impl.Link, bool) {
	if !linkByRules(l) {
		return impl.Link{}, false
	}
	more := l
	more.Sent, more.Queue = l.Sent+1, slices.Concat(l.Queue, []string{text})
	if !linkByRules(more) {
		return l, false
	}
	return more, true
}

func shownByRules(l impl.Link) []impl.Piece {
	var list []impl.Piece
	if !linkByRules(l) {
		return list
	}
	for i, text := range l.Queue {
		if i < 4 {
			list = append(list, impl.Piece{No: l.Acked + i, Text: text})
		}
	}
	return list
}

// heldAt: the place in Held of that number; -1 when it is not held.
func heldAt(l impl.Link, no int) int {
	return slices.IndexFunc(l.Held, func(p impl.Piece) bool { return p.No == no })
}

func takenByRules(l impl.Link, p impl.Piece) (impl.Link, []string) {
	if !linkByRules(l) {
		return impl.Link{}, nil
	}
	next := cloneLink(l)
	if p.No != l.Got {
		if p.No > l.Got && p.No < l.Got+4 && p.No < l.Sent && heldAt(l, p.No) < 0 {
			next.Held = append(next.Held, p)
			slices.SortFunc(next.Held, func(a, b impl.Piece) int { return a.No - b.No })
		}
		return next, nil
	}
	if p.No >= l.Sent {
		return next, nil
	}
	up := []string{p.Text}
	next.Got++
	for at := heldAt(next, next.Got); at >= 0; at = heldAt(next, next.Got) {
		up = append(up, next.Held[at].Text)
		next.Held = slices.Delete(next.Held, at, at+1)
		next.Got++
	}
	return next, up
}

func ackedByRules(l impl.Link, no int) (impl.Link, bool) {
	if !linkByRules(l) {
		return impl.Link{}, false
	}
	if no <= l.Acked || no > l.Got {
		return l, false
	}
	next := l
	next.Acked, next.Queue = no, slices.Clone(l.Queue[no-l.Acked:])
	return next, true
}

func askLinkOk(t *testing.T, why string, l impl.Link, want bool) {
	t.Helper()
	if got := impl.LinkOk(l); got != want {
		t.Errorf("%s: LinkOk of %s tells %v", why, toldLink(l), got)
	}
}

func askSend(t *testing.T, why string, l impl.Link, text string, want impl.Link, done bool) {
	t.Helper()
	if got, ok := impl.LinkSend(l, text); ok != done || !sameLink(got, want) {
		t.Errorf("%s: LinkSend of %.50q to %s\ntells %v, %s\nnot %v, %s", why, text, toldLink(l), ok, toldLink(got), done, toldLink(want))
	}
}

func askShow(t *testing.T, why string, l impl.Link, want []impl.Piece) {
	t.Helper()
	if got := impl.LinkShow(l); !slices.Equal(got, want) {
		t.Errorf("%s: LinkShow of %s\ntells %.300q\nnot %.300q", why, toldLink(l), fmt.Sprint(got), fmt.Sprint(want))
	}
}

func askTake(t *testing.T, why string, l impl.Link, p impl.Piece, want impl.Link, up []string) {
	t.Helper()
	if got, told := impl.LinkTake(l, p); !slices.Equal(told, up) || !sameLink(got, want) {
		t.Errorf("%s: LinkTake of %d by %s\ntells %q, %s\nnot %q, %s", why, p.No, toldLink(l), told, toldLink(got), up, toldLink(want))
	}
}

func askAck(t *testing.T, why string, l impl.Link, no int, want impl.Link, done bool) {
	t.Helper()
	if got, ok := impl.LinkAck(l, no); ok != done || !sameLink(got, want) {
		t.Errorf("%s: LinkAck of %d to %s\ntells %v, %s\nnot %v, %s", why, no, toldLink(l), ok, toldLink(got), done, toldLink(want))
	}
}

// brokenLinks: each is wrong in one way alone, where that can be.
func brokenLinks() map[string]impl.Link {
	short, long := aLink(5, 1, 3), aLink(5, 1, 3)
	short.Queue, long.Queue = short.Queue[:3], append(long.Queue, "more")
	shortest := aLink(5, 1, 3)
	shortest.Queue = nil
	return map[string]impl.Link{
		"Acked below 0":              aLink(0, -1, 0),
		"Got below 0":                {Got: -1},
		"Acked and Got below 0":      aLink(2, -1, -1),
		"all below 0":                aLink(-1, -1, -1),
		"Sent below 0":               {Sent: -1},
		"Sent above MaxNo":           aLink(100001, 100000, 100000),
		"Sent and Got above MaxNo":   aLink(100001, 100000, 100001),
		"all above MaxNo":            aLink(100001, 100001, 100001),
		"Acked above Got":            aLink(5, 4, 3),
		"Got above Sent":             aLink(5, 4, 6),
		"Got above Sent, none there": aLink(5, 5, 6),
		"a Queue of one fewer":       short,
		"a Queue of one more":        long,
		"no Queue":                   shortest,
		"a Queue, and none sent":     {Queue: words("a")},
		"sent, and no Queue":         {Sent: 1},
		"a Queue above MaxQueue":     aLink(31, 0, 0),
		"a Queue far above MaxQueue": aLink(500, 10, 20),
		"Held not in order":          aLink(9, 2, 3, 5, 4),
		"Held not in order, later":   aLink(9, 2, 3, 4, 6, 5),
		"Held twice":                 aLink(9, 2, 3, 5, 5),
		"Held twice, later":          aLink(9, 2, 3, 4, 5, 5),
		"Held of Got":                aLink(9, 2, 3, 3),
		"Held below Got":             aLink(9, 2, 3, 2),
		"Held of Got, and others":    aLink(9, 2, 3, 3, 4),
		"Held beyond the window":     aLink(9, 2, 3, 7),
		"Held last beyond it":        aLink(9, 2, 3, 4, 5, 6, 7),
		"Held far beyond it":         aLink(9, 2, 3, 8),
		"Held of Sent":               aLink(5, 2, 3, 5),
		"Held beyond Sent":           aLink(5, 2, 3, 6),
		"Held, and all handed up":    aLink(5, 2, 5, 6),
		"Held below 0":               aLink(5, 0, 0, -1),
		"Held of a new link":         {Held: piecesOf(0)},
		"Held at the end":            aLink(100000, 99999, 99999, 100000),
		"Held of great numbers":      aLink(9, 2, 3, math.MaxInt),
		"Held of low numbers":        aLink(9, 2, 3, math.MinInt),
		"great numbers":              {Sent: math.MaxInt, Acked: math.MaxInt, Got: math.MaxInt},
		"low numbers":                {Sent: math.MinInt, Acked: math.MinInt, Got: math.MinInt},
		"numbers that wrap round":    {Sent: math.MinInt, Acked: math.MaxInt, Got: math.MaxInt, Queue: words("a")},
		"numbers that wrap":          {Sent: math.MaxInt, Acked: math.MinInt, Got: 0},
	}
}

// rightLinks: such as are right just so, at the edges and within.
func rightLinks() map[string]impl.Link {
	return map[string]impl.Link{
		"a new one":              {},
		"one sent":               aLink(1, 0, 0),
		"one handed up":          aLink(1, 0, 1),
		"one told of":            aLink(1, 1, 1),
		"all three alike":        aLink(7, 7, 7),
		"Acked just Got":         aLink(5, 3, 3),
		"Got just Sent":          aLink(5, 3, 5),
		"some of each":           aLink(5, 1, 3),
		"all at MaxNo":           aLink(100000, 100000, 100000),
		"Sent and Got at MaxNo":  aLink(100000, 99980, 100000),
		"Sent at MaxNo":          aLink(100000, 99990, 99995, 99996, 99998),
		"Sent below MaxNo":       aLink(99999, 99990, 99995, 99998),
		"all below MaxNo":        aLink(99999, 99999, 99999),
		"a Queue of MaxQueue":    aLink(30, 0, 0),
		"a full Queue, later":    aLink(530, 500, 510, 511),
		"a full Queue at MaxNo":  aLink(100000, 99970, 99997, 99999),
		"a Queue with room":      aLink(29, 0, 12, 14, 15),
		"held behind Got":        aLink(9, 2, 3, 4),
		"held at the window":     aLink(9, 2, 3, 6),
		"held in whole":          aLink(9, 2, 3, 4, 5, 6),
		"held with a gap":        aLink(9, 2, 3, 4, 6),
		"held with a gap behind": aLink(9, 2, 3, 5, 6),
		"held just below Sent":   aLink(5, 2, 2, 4),
		"held of two":            aLink(2, 0, 0, 1),
		"held of other texts":    {Sent: 5, Queue: payloads(0, 5), Held: []impl.Piece{{No: 1, Text: "x"}, {No: 3}}},
		"no texts":               {Sent: 4, Acked: 1, Got: 1, Queue: words("", "", ""), Held: []impl.Piece{{No: 2}, {No: 3}}},
	}
}

func allLinks() map[string]impl.Link {
	all := rightLinks()
	for why, l := range brokenLinks() {
		all[why] = l
	}
	return all
}

func TestLinkLimits(t *testing.T) {
	if impl.Window != 4 || impl.MaxQueue != 30 || impl.MaxNo != 100000 {
		t.Error("a limit is another one", impl.Window, impl.MaxQueue, impl.MaxNo)
	}
}

func TestLinkOkAtEachEdge(t *testing.T) {
	for why, l := range rightLinks() {
		askLinkOk(t, why, l, true)
		if !linkByRules(l) {
			t.Errorf("%s: by the rules it is not right", why)
		}
	}
	for why, l := range brokenLinks() {
		askLinkOk(t, why, l, false)
		if linkByRules(l) {
			t.Errorf("%s: by the rules it is right", why)
		}
	}
}

// Each Queue about what it should be, at each difference of Sent and Acked about MaxQueue.
func TestLinkOkOfQueues(t *testing.T) {
	for _, acked := range []int{0, 1, 70, 99960} {
		for many := range 40 {
			for count := max(0, many-2); count <= many+2; count++ {
				l := impl.Link{Sent: acked + many, Acked: acked, Got: acked + many/2, Queue: make([]string, count)}
				askLinkOk(t, "a Queue", l, count == many && many <= 30)
			}
		}
	}
}

// heldLists: all lists of at most so many of these numbers, in each order, with one twice or thrice.
func heldLists(from int, below int, most int) [][]int {
	lists := [][]int{nil}
	for at := 0; at < len(lists); at++ {
		if len(lists[at]) == most {
			break
		}
		for no := from; no < below; no++ {
			lists = append(lists, append(slices.Clone(lists[at]), no))
		}
	}
	return lists
}

func TestLinkOkOfAllHeld(t *testing.T) {
	right := 0
	for _, got := range []int{0, 6, 99995} {
		for sent := got; sent < got+6; sent++ {
			for _, held := range heldLists(got-2, got+7, 4) {
				l := aLink(sent, got, got, held...)
				want := linkByRules(l)
				askLinkOk(t, "held", l, want)
				if want {
					right++
				}
			}
		}
	}
	// Of each Got the subsets of what is in the window and below Sent: 1, 1, 2, 4, 8, 8.
	if right != 3*24 {
		t.Error("so many are right", right)
	}
}

func TestLinkOkOfAllSmallNumbers(t *testing.T) {
	for _, by := range []int{0, 99998} {
		for sent := by - 3; sent < by+7; sent++ {
			for acked := by - 3; acked < by+7; acked++ {
				for got := by - 3; got < by+7; got++ {
					l := aLink(sent, acked, got)
					askLinkOk(t, "numbers", l, sent <= 100000 && acked >= 0 && acked <= got && got <= sent)
				}
			}
		}
	}
}

func TestSendStandsBehindAll(t *testing.T) {
	var l impl.Link
	for no := range 30 {
		next, ok := impl.LinkSend(l, payload(no))
		if want := aLink(no+1, 0, 0); !ok || !sameLink(next, want) {
			t.Fatalf("payload %d: %v, %s", no, ok, toldLink(next))
		}
		l = next
	}
	askSend(t, "a full Queue", l, "more", l, false)
	askSend(t, "a full Queue, no text", l, "", l, false)
}

func TestSendAtEachEdge(t *testing.T) {
	for why, l := range brokenLinks() {
		askSend(t, why, l, "more", impl.Link{}, false)
	}
	for _, x := range []struct {
		why  string
		l    impl.Link
		done bool
	}{
		{"a Queue with room for one", aLink(29, 0, 12, 14, 15), true},
		{"a Queue with room for one, later", aLink(529, 500, 510, 511), true},
		{"a full Queue", aLink(30, 0, 12, 14, 15), false},
		{"a full Queue, all handed up", aLink(530, 500, 530), false},
		{"one below MaxNo", aLink(99999, 99995, 99996, 99998), true},
		{"one below MaxNo, all told of", aLink(99999, 99999, 99999), true},
		{"one below MaxNo, a full Queue", aLink(99999, 99969, 99999), false},
		{"at MaxNo", aLink(100000, 99995, 99996, 99998), false},
		{"at MaxNo, all told of", aLink(100000, 100000, 100000), false},
		{"at MaxNo, a full Queue", aLink(100000, 99970, 99997), false},
		{"held", aLink(9, 2, 3, 4, 6), true},
	} {
		want := cloneLink(x.l)
		if x.done {
			want.Sent++
			want.Queue = append(want.Queue, "more")
		}
		askSend(t, x.why, x.l, "more", want, x.done)
	}
}

// A text is a payload whatever its bytes are: of none, of many more than MaxText, and of what is no name, no value and no text in runes.
func TestSendOfAnyText(t *testing.T) {
	for _, text := range append(edgeTexts(), "(", "#kont", "\xc3", "\x80\x80\x80", strings.Repeat("(a ", 100000)) {
		l, ok := impl.LinkSend(aLink(2, 1, 1), text)
		if want := (impl.Link{Sent: 3, Acked: 1, Got: 1, Queue: words(payload(1), text)}); !ok || !sameLink(l, want) {
			t.Errorf("%.30q, of %d bytes, is not sent as it is", text, len(text))
		}
		askShow(t, "any text", l, []impl.Piece{pieceOf(1), {No: 2, Text: text}})
		l, up := impl.LinkTake(l, impl.Piece{No: 2, Text: text})
		if len(up) != 0 || !slices.Equal(l.Held, []impl.Piece{{No: 2, Text: text}}) {
			t.Errorf("%.30q, of %d bytes, is not held as it is", text, len(text))
		}
		if l, up = impl.LinkTake(l, pieceOf(1)); !slices.Equal(up, words(payload(1), text)) || len(l.Held) != 0 || l.Got != 3 {
			t.Errorf("%.30q, of %d bytes, is not handed up as it is", text, len(text))
		}
		askTake(t, "any text", aLink(5, 2, 3), impl.Piece{No: 3, Text: text}, aLink(5, 2, 4), words(text))
	}
}

func TestShow(t *testing.T) {
	for why, l := range brokenLinks() {
		askShow(t, why, l, nil)
	}
	for _, acked := range []int{0, 1, 7, 99970} {
		for many := range 31 {
			for got := acked; got <= acked+many; got++ {
				// What was handed up, but not told of, is shown again.
				numbers := []int{acked, acked + 1, acked + 2, acked + 3}[:min(4, many)]
				askShow(t, "show", aLink(acked+many, acked, got), piecesOf(numbers...))
			}
		}
	}
	askShow(t, "held", aLink(9, 2, 3, 4, 6), piecesOf(2, 3, 4, 5))
}

func TestTakeWhatComesNext(t *testing.T) {
	for _, x := range []struct {
		why  string
		l    impl.Link
		want impl.Link
	}{
		{"nothing held", aLink(9, 2, 3), aLink(9, 2, 4)},
		{"the first one", aLink(1, 0, 0), aLink(1, 0, 1)},
		{"the first of some", aLink(9, 0, 0), aLink(9, 0, 1)},
		{"the last one", aLink(9, 2, 8), aLink(9, 2, 9)},
		{"the last of all", aLink(100000, 99999, 99999), aLink(100000, 99999, 100000)},
		{"one follows", aLink(9, 2, 3, 4), aLink(9, 2, 5)},
		{"two follow", aLink(9, 2, 3, 4, 5), aLink(9, 2, 6)},
		{"all of the window follow", aLink(9, 2, 3, 4, 5, 6), aLink(9, 2, 7)},
		{"all up to Sent follow", aLink(7, 2, 3, 4, 5, 6), aLink(7, 2, 7)},
		{"all up to MaxNo follow", aLink(100000, 99990, 99996, 99997, 99998, 99999), aLink(100000, 99990, 100000)},
		{"a gap behind one", aLink(9, 2, 3, 4, 6), aLink(9, 2, 5, 6)},
		{"a gap at once", aLink(9, 2, 3, 5, 6), aLink(9, 2, 4, 5, 6)},
		{"a gap of one at once", aLink(9, 2, 3, 5), aLink(9, 2, 4, 5)},
		{"a gap up to the end", aLink(9, 2, 3, 6), aLink(9, 2, 4, 6)},
		{"a gap, none to come", aLink(6, 2, 3, 5), aLink(6, 2, 4, 5)},
	} {
		askTake(t, x.why, x.l, pieceOf(x.l.Got), x.want, payloads(x.l.Got, x.want.Got))
	}
}

func TestTakeTooEarly(t *testing.T) {
	for _, x := range []struct {
		why  string
		l    impl.Link
		no   int
		want impl.Link
	}{
		{"behind Got", aLink(9, 2, 3), 4, aLink(9, 2, 3, 4)},
		{"in the window", aLink(9, 2, 3), 5, aLink(9, 2, 3, 5)},
		{"at the window's end", aLink(9, 2, 3), 6, aLink(9, 2, 3, 6)},
		{"ahead of what is held", aLink(9, 2, 3, 5, 6), 4, aLink(9, 2, 3, 4, 5, 6)},
		{"between what is held", aLink(9, 2, 3, 4, 6), 5, aLink(9, 2, 3, 4, 5, 6)},
		{"behind what is held", aLink(9, 2, 3, 4, 5), 6, aLink(9, 2, 3, 4, 5, 6)},
		{"just below Sent", aLink(6, 2, 3), 5, aLink(6, 2, 3, 5)},
		{"just below MaxNo", aLink(100000, 99990, 99996), 99999, aLink(100000, 99990, 99996, 99999)},
	} {
		askTake(t, x.why, x.l, pieceOf(x.no), x.want, nil)
	}
}

func TestTakeWhatIsNotTaken(t *testing.T) {
	for _, x := range []struct {
		why string
		l   impl.Link
		no  int
	}{
		{"beyond the window", aLink(9, 2, 3), 7},
		{"beyond the window, which is full", aLink(9, 2, 3, 4, 5, 6), 7},
		{"far beyond the window", aLink(9, 2, 3), 8},
		{"at Sent, in the window", aLink(6, 2, 3), 6},
		{"at Sent, behind what is held", aLink(6, 2, 3, 5), 6},
		{"beyond Sent, in the window", aLink(5, 2, 3), 6},
		{"beyond Sent", aLink(9, 2, 3), 10},
		{"Got, which is Sent", aLink(9, 2, 9), 9},
		{"Got, which is Sent, all told of", aLink(9, 9, 9), 9},
		{"Got of a new link", impl.Link{}, 0},
		{"Got at MaxNo", aLink(100000, 99990, 100000), 100000},
		{"held already", aLink(9, 2, 3, 4), 4},
		{"held already, the last", aLink(9, 2, 3, 4, 6), 6},
		{"held already, between", aLink(9, 2, 3, 4, 5, 6), 5},
		{"just handed up", aLink(9, 2, 3), 2},
		{"handed up long ago", aLink(9, 5, 6), 0},
		{"told of", aLink(9, 5, 6), 4},
		{"handed up, with more held", aLink(9, 2, 3, 4, 5), 1},
		{"below 0", aLink(9, 2, 3), -1},
		{"below 0, nothing handed up", aLink(9, 0, 0), -1},
		{"far below 0", aLink(9, 2, 3), -1 << 40},
		{"the lowest of all", aLink(9, 2, 3, 5), math.MinInt},
		{"beyond MaxNo", aLink(100000, 99990, 99998), 100001},
		{"far beyond all numbers", aLink(9, 2, 3), 1 << 40},
		{"the greatest of all", aLink(9, 2, 3, 5), math.MaxInt},
		{"the greatest, at MaxNo", aLink(100000, 100000, 100000), math.MaxInt},
	} {
		askTake(t, x.why, x.l, pieceOf(x.no), x.l, nil)
		askTake(t, x.why+", another text", x.l, impl.Piece{No: x.no, Text: "another"}, x.l, nil)
		askTake(t, x.why+", no text", x.l, impl.Piece{No: x.no}, x.l, nil)
	}
}

// What came first is what is handed up, not what came later with the same number.
func TestHeldTwiceIsTheFirst(t *testing.T) {
	l := aLink(9, 2, 3)
	l, _ = impl.LinkTake(l, impl.Piece{No: 4, Text: "first"})
	l, _ = impl.LinkTake(l, impl.Piece{No: 4, Text: "second"})
	l, up := impl.LinkTake(l, impl.Piece{No: 3, Text: ""})
	if !slices.Equal(up, words("", "first")) || l.Got != 5 || len(l.Held) != 0 {
		t.Errorf("%q is handed up, %s", up, toldLink(l))
	}
}

func TestTakeByWhatIsNotRight(t *testing.T) {
	for why, l := range brokenLinks() {
		for _, no := range []int{l.Got, l.Got + 1, l.Sent, l.Sent - 1, l.Acked, 0, -1, 3, 4, math.MaxInt, math.MinInt} {
			askTake(t, why, l, pieceOf(no), impl.Link{}, nil)
		}
	}
}

func TestAck(t *testing.T) {
	for why, l := range brokenLinks() {
		for _, no := range []int{l.Got, l.Got + 1, l.Acked, l.Acked + 1, l.Sent, 0, -1, 3, math.MaxInt, math.MinInt} {
			askAck(t, why, l, no, impl.Link{}, false)
		}
	}
	for _, x := range []struct {
		why  string
		no   int
		done bool
	}{
		{"the lowest of all", math.MinInt, false}, {"below 0", -1, false}, {"0", 0, false}, {"one below Acked", 1, false},
		{"just Acked", 2, false}, {"one above it", 3, true}, {"one below Got", 4, true}, {"just Got", 5, true},
		{"one above Got", 6, false}, {"one that is held", 7, false}, {"Sent", 9, false}, {"beyond Sent", 10, false},
		{"far above", 1 << 40, false}, {"the greatest of all", math.MaxInt, false},
	} {
		for _, held := range [][]int{nil, {7}, {6, 7, 8}} {
			l, want := aLink(9, 2, 5, held...), aLink(9, 2, 5, held...)
			if x.done {
				want = aLink(9, x.no, 5, held...)
			}
			askAck(t, x.why, l, x.no, want, x.done)
		}
	}
	askAck(t, "all of them", aLink(9, 2, 9), 9, aLink(9, 9, 9), true)
	askAck(t, "all of a full Queue", aLink(30, 0, 30), 30, aLink(30, 30, 30), true)
	askAck(t, "the last of all", aLink(100000, 99999, 100000), 100000, aLink(100000, 100000, 100000), true)
	askAck(t, "beyond the last of all", aLink(100000, 100000, 100000), 100001, aLink(100000, 100000, 100000), false)
	askAck(t, "a new link", impl.Link{}, 0, impl.Link{}, false)
	askAck(t, "a new link, one", impl.Link{}, 1, impl.Link{}, false)
	askAck(t, "the first", aLink(1, 0, 1), 1, aLink(1, 1, 1), true)
	askAck(t, "none handed up", aLink(1, 0, 0), 1, aLink(1, 0, 0), false)
}

// askLinkByRules asks all of a link, with each of these numbers.
func askLinkByRules(t *testing.T, why string, l impl.Link, numbers []int) {
	t.Helper()
	askLinkOk(t, why, l, linkByRules(l))
	sent, done := sentByRules(l, "new")
	askSend(t, why, l, "new", sent, done)
	askShow(t, why, l, shownByRules(l))
	for _, no := range numbers {
		p := impl.Piece{No: no, Text: fmt.Sprint("came ", no)}
		taken, up := takenByRules(l, p)
		askTake(t, why, l, p, taken, up)
		acked, done := ackedByRules(l, no)
		askAck(t, why, l, no, acked, done)
		if linkByRules(l) && (!linkByRules(sent) || !linkByRules(taken) || !linkByRules(acked)) {
			t.Errorf("%s: by the rules %s comes to what is not right", why, toldLink(l))
		}
	}
}

func numbersAbout(l impl.Link) []int {
	list := []int{math.MinInt, math.MinInt + 1, -100000, -1, 0, 1, 100000, 100001, math.MaxInt - 1, math.MaxInt}
	for _, n := range []int{l.Sent, l.Acked, l.Got, l.Got + impl.Window} {
		for by := -3; by < 4; by++ {
			list = append(list, n+by)
		}
	}
	slices.Sort(list)
	return slices.Compact(list)
}

// All links that are right of few payloads, from the beginning, from the middle and up to MaxNo; and all that are named above.
func TestLinksByRules(t *testing.T) {
	for why, l := range allLinks() {
		askLinkByRules(t, why, l, numbersAbout(l))
	}
	count := 0
	for _, acked := range []int{0, 40, 99993} {
		for sent := acked; sent < acked+8; sent++ {
			for got := acked; got <= sent; got++ {
				for _, held := range heldLists(got+1, min(got+impl.Window, sent), impl.Window-1) {
					l := aLink(sent, acked, got, held...)
					if !linkByRules(l) {
						continue
					}
					askLinkByRules(t, "all of few", l, numbersAbout(l))
					count++
				}
			}
		}
		if t.Failed() {
			return
		}
	}
	if count < 300 {
		t.Error("so few were asked", count)
	}
}

// A way is a link, and beside it all that was handed in and up on it.
type way struct {
	link impl.Link
	gave []string
	took []string
}

func (w *way) send(text string) bool {
	l, ok := impl.LinkSend(w.link, text)
	if ok {
		w.gave = append(w.gave, text)
	}
	w.link = l
	return ok
}

func (w *way) take(p impl.Piece) {
	l, up := impl.LinkTake(w.link, p)
	w.link = l
	w.took = append(w.took, up...)
}

func (w *way) ack(no int) { w.link, _ = impl.LinkAck(w.link, no) }

// wrong tells what is not as promised; the empty text, when all is.
func (w *way) wrong() string {
	l := w.link
	switch {
	case !impl.LinkOk(l):
		return "it is not right"
	case l.Sent != len(w.gave) || l.Got != len(w.took):
		return "it counts otherwise"
	case len(w.took) > len(w.gave) || !slices.Equal(w.took, w.gave[:len(w.took)]):
		return "what was handed up is not the beginning of what was handed in"
	case !slices.Equal(l.Queue, w.gave[l.Acked:]):
		return "what waits is not the last of what was handed in"
	}
	for _, p := range l.Held {
		if p.Text != w.gave[p.No] {
			return "what is held is not what was handed in"
		}
	}
	return ""
}

func askWayIsRight(t *testing.T, why string, w *way) {
	t.Helper()
	if wrong := w.wrong(); wrong != "" {
		t.Fatalf("%s: %s: %.300q was handed in, %.300q up; %s", why, wrong, w.gave, w.took, toldLink(w.link))
	}
}

// goodDay: all that is to be shown comes, once and in order, and is told of.
func (w *way) goodDay() {
	for _, p := range impl.LinkShow(w.link) {
		w.take(p)
	}
	w.ack(w.link.Got)
}

func askAllComes(t *testing.T, why string, w *way) {
	t.Helper()
	// On the first day all that is shown may have come already.
	for range len(w.link.Queue)/impl.Window + 2 {
		w.goodDay()
		askWayIsRight(t, why, w)
	}
	if len(w.took) != len(w.gave) || len(w.link.Queue) != 0 || len(w.link.Held) != 0 {
		t.Fatalf("%s: over a good net only %d of %d come up; %s", why, len(w.took), len(w.gave), toldLink(w.link))
	}
}

func (w *way) cloned() *way {
	return &way{cloneLink(w.link), slices.Clone(w.gave), slices.Clone(w.took)}
}

func TestGoodNetForEachNumberOfPayloads(t *testing.T) {
	for many := range 31 {
		w := &way{}
		for no := range many {
			if !w.send(payload(no)) {
				t.Fatal("it is not sent", no)
			}
		}
		for day := range (many + 3) / 4 {
			w.goodDay()
			askWayIsRight(t, "good", w)
			if want := min(many, 4*day+4); w.link.Got != want || w.link.Acked != want {
				t.Fatalf("of %d payloads so many came up by day %d: %s", many, day, toldLink(w.link))
			}
		}
		askAllComes(t, "good", w)
	}
}

// All MaxNo payloads come up over a good net; one more can't be handed in.
func TestGoodNetUpToMaxNo(t *testing.T) {
	w := &way{}
	for len(w.took) < 100000 {
		for w.send(payload(w.link.Sent)) {
		}
		if w.link.Sent < 100000 && len(w.link.Queue) != 30 {
			t.Fatalf("it takes no more: %s", toldLink(w.link))
		}
		before := len(w.took)
		w.goodDay()
		if len(w.took) == before {
			t.Fatalf("nothing comes up: %s", toldLink(w.link))
		}
	}
	askWayIsRight(t, "all of them", w)
	if !sameLink(w.link, impl.Link{Sent: 100000, Acked: 100000, Got: 100000}) || w.send("more") {
		t.Errorf("it ends as %s", toldLink(w.link))
	}
}

// orders: all orders of so many numbers from 0 on.
func orders(n int) [][]int {
	if n == 0 {
		return [][]int{nil}
	}
	var all [][]int
	for _, shorter := range orders(n - 1) {
		for at := range n {
			all = append(all, slices.Insert(slices.Clone(shorter), at, n-1))
		}
	}
	return all
}

// What one show shows comes in every order, each never, once, twice or thrice: what comes up is known beforehand.
func TestEveryOrderOfOneShow(t *testing.T) {
	start := &way{}
	for no := range 6 {
		start.send(payload(no))
	}
	shown := impl.LinkShow(start.link)
	for _, order := range orders(len(shown)) {
		for lost := range 16 {
			for times := 1; times < 4; times++ {
				w := start.cloned()
				came := [6]bool{}
				for _, i := range order {
					if lost>>i&1 == 1 {
						continue
					}
					for range times {
						w.take(shown[i])
						askWayIsRight(t, "orders", w)
					}
					came[i] = true
				}
				if want := slices.Index(came[:], false); w.link.Got != want {
					t.Fatalf("%v without %b: %d came up, not %d", order, lost, w.link.Got, want)
				}
				askAllComes(t, "orders", w)
			}
		}
	}
}

// A stage is all that one may come to: the way, and how many of its payloads were shown at some time.
type stage struct {
	way
	shown int
}

func (s stage) name() string { return fmt.Sprint(s.link, len(s.gave), len(s.took), s.shown) }

// following: whatever may happen next. The net may have doubled all that it was ever given, so that each may come at any time.
func (s stage) following(most int) []stage {
	var list []stage
	add := func(do func(n *stage)) {
		n := stage{*s.cloned(), s.shown}
		do(&n)
		list = append(list, n)
	}
	if s.link.Sent < most {
		// Some are empty, and some alike, so that one can't be told from the other by its text.
		text := []string{"", "x", "yz", "", "x", "v", "x", "", "w"}[s.link.Sent]
		add(func(n *stage) { n.send(text) })
	}
	if show := impl.LinkShow(s.link); len(show) > 0 {
		add(func(n *stage) { n.shown = max(s.shown, show[len(show)-1].No+1) })
	}
	for no := range s.shown {
		add(func(n *stage) { n.take(impl.Piece{No: no, Text: s.gave[no]}) })
	}
	for no := range s.link.Got + 1 {
		add(func(n *stage) { n.ack(no) })
	}
	return list
}

// Of few payloads all that a bad net can do, in every order: the promise holds at each stage, and all comes up when the net is good from there on.
func TestAllThatABadNetCanDo(t *testing.T) {
	known := map[string]bool{stage{}.name(): true}
	work := []stage{{}}
	for len(work) > 0 {
		s := work[0]
		work = work[1:]
		askWayIsRight(t, "a bad net", &s.way)
		askAllComes(t, "good from there on", s.cloned())
		for _, n := range s.following(9) {
			if name := n.name(); !known[name] {
				known[name] = true
				work = append(work, n)
			}
		}
	}
	if len(known) < 500 {
		t.Error("so few stages were come to", len(known))
	}
}

// A post is a piece on its way, or how many were handed up.
type post struct {
	piece impl.Piece
	ack   bool
}

// A bad net: what is on its way may be lost, doubled, and come in any order; told of is what Got was at some time.
type badNet struct {
	*aRandom
	way
	posts []post
}

func (n *badNet) anyText() string {
	texts := append(edgeTexts()[:9], "same", "same", "other")
	return texts[n.below(len(texts))]
}

func (n *badNet) removed(at int) post {
	x := n.posts[at]
	n.posts = slices.Delete(n.posts, at, at+1)
	return x
}

func (n *badNet) give(x post) {
	if x.ack {
		n.ack(x.piece.No)
		return
	}
	n.take(x.piece)
	n.posts = append(n.posts, post{impl.Piece{No: n.link.Got}, true})
}

func (n *badNet) something() {
	switch kind := n.below(10); {
	case kind < 3:
		n.send(n.anyText())
	case kind < 5:
		for _, p := range impl.LinkShow(n.link) {
			n.posts = append(n.posts, post{p, false})
		}
	case len(n.posts) == 0:
	case kind == 5:
		n.removed(n.below(len(n.posts)))
	case kind == 6:
		n.posts = append(n.posts, n.posts[n.below(len(n.posts))])
	default:
		n.give(n.removed(n.below(len(n.posts))))
	}
	// What was left longest may come at last, or is lost.
	if len(n.posts) > 60 {
		n.removed(0)
	}
}

func TestPayloadsOverABadNet(t *testing.T) {
	t.Parallel()
	up, held := 0, 0
	for seed := range 60 {
		n := &badNet{aRandom: &aRandom{x: uint64(1000 + seed)}}
		if seed%20 == 19 {
			n.way = nearTheEnd(seed)
		}
		for range 1500 {
			n.something()
			askWayIsRight(t, fmt.Sprint("net ", seed), &n.way)
			held = max(held, len(n.link.Held))
		}
		up += len(n.took)
		askAllComes(t, fmt.Sprint("net ", seed), n.cloned())
		// What is on its way still comes, at last, and turns nothing.
		askAllComes(t, fmt.Sprint("net ", seed), &n.way)
		for len(n.posts) > 0 {
			n.give(n.removed(n.below(len(n.posts))))
		}
		askWayIsRight(t, fmt.Sprint("net ", seed), &n.way)
	}
	if up < 5000 || held != 3 {
		t.Error("so little came up, or was held", up, held)
	}
}

// nearTheEnd: a way on which nearly all that can be handed in came up.
func nearTheEnd(seed int) way {
	all := make([]string, 100000-seed)
	return way{impl.Link{Sent: len(all), Acked: len(all), Got: len(all)}, all, slices.Clone(all)}
}

// Links and pieces that no net would come to, right and not right, are told by the rules, too.
func TestAnyLinksByRules(t *testing.T) {
	r := &aRandom{x: 211}
	right := 0
	for range 30000 {
		acked := []int{0, 0, 5, 99990, 99970}[r.below(5)]
		got := acked + r.below(8)
		l := aLink(got+r.below(8), acked, got)
		for no := got + 1; no < min(got+4, l.Sent); no++ {
			if r.below(2) == 0 {
				l.Held = append(l.Held, impl.Piece{No: no, Text: "held"})
			}
		}
		if r.below(3) == 0 {
			*[]*int{&l.Sent, &l.Acked, &l.Got}[r.below(3)] += r.below(7) - 3
		}
		if len(l.Held) > 0 && r.below(5) == 0 {
			l.Held[r.below(len(l.Held))].No += r.below(9) - 4
		}
		if r.below(10) == 0 {
			l.Queue = append(l.Queue, make([]string, r.below(25))...)
			l.Sent = l.Acked + len(l.Queue)
		}
		askLinkByRules(t, "any", l, []int{l.Got, l.Got - 3 + r.below(9), l.Acked + r.below(3), r.below(100003)})
		if t.Failed() {
			return
		}
		if linkByRules(l) {
			right++
		}
	}
	if right < 8000 || right > 22000 {
		t.Error("so many were right", right)
	}
}

// roomyLink: the link with spare room behind its lists, and the whole of their memory.
func roomyLink(l impl.Link) (impl.Link, []string, []impl.Piece) {
	queue := append(slices.Clone(l.Queue), "spare", "room", "behind", "it", "all")
	held := append(slices.Clone(l.Held), impl.Piece{No: -71, Text: "spare"}, impl.Piece{No: -72}, impl.Piece{No: -73}, impl.Piece{No: -74})
	l.Queue, l.Held = queue[:len(l.Queue)], held[:len(l.Held)]
	return l, queue, held
}

func spoilTexts(list []string) {
	list = list[:cap(list)]
	for i := range list {
		list[i] = "spoilt"
	}
}

func spoilPieces(list []impl.Piece) {
	list = list[:cap(list)]
	for i := range list {
		list[i] = impl.Piece{No: -7777, Text: "spoilt"}
	}
}

// A linkAnswer is all that a function may tell of a link.
type linkAnswer struct {
	link  impl.Link
	up    []string
	shown []impl.Piece
	ok    bool
}

func (a linkAnswer) equal(b linkAnswer) bool {
	return sameLink(a.link, b.link) && slices.Equal(a.up, b.up) && slices.Equal(a.shown, b.shown) && a.ok == b.ok
}

func (a linkAnswer) cloned() linkAnswer {
	return linkAnswer{cloneLink(a.link), slices.Clone(a.up), slices.Clone(a.shown), a.ok}
}

func (a linkAnswer) spoil() {
	spoilTexts(a.link.Queue)
	spoilPieces(a.link.Held)
	spoilTexts(a.up)
	spoilPieces(a.shown)
}

func askLinkMemory(t *testing.T, why string, l impl.Link, ask func(l impl.Link) linkAnswer) {
	t.Helper()
	given, queue, held := roomyLink(l)
	queueBefore, heldBefore := slices.Clone(queue), slices.Clone(held)
	first := ask(given)
	kept := first.cloned()
	ask(given).spoil()
	if !slices.Equal(queue, queueBefore) || !slices.Equal(held, heldBefore) {
		t.Errorf("%s: an argument was written into, or the answer shares its memory", why)
	}
	spoilTexts(queue)
	spoilPieces(held)
	if !first.equal(kept) {
		t.Errorf("%s: the answer shares memory with an argument, or with another one", why)
	}
	// Each list by itself: no other of the answer turns with it.
	spoilTexts(first.up)
	if !sameLink(first.link, kept.link) {
		t.Errorf("%s: two lists of the answer share memory", why)
	}
	if third := ask(l); !third.equal(kept) {
		t.Errorf("%s: something is kept from call to call", why)
	}
}

func TestNothingIsWrittenByLinks(t *testing.T) {
	for why, l := range allLinks() {
		askLinkMemory(t, "LinkOk, "+why, l, func(l impl.Link) linkAnswer { return linkAnswer{ok: impl.LinkOk(l)} })
		askLinkMemory(t, "LinkShow, "+why, l, func(l impl.Link) linkAnswer { return linkAnswer{shown: impl.LinkShow(l)} })
		askLinkMemory(t, "LinkSend, "+why, l, func(l impl.Link) linkAnswer {
			n, ok := impl.LinkSend(l, "more")
			return linkAnswer{link: n, ok: ok}
		})
		for _, no := range numbersAbout(l) {
			askLinkMemory(t, fmt.Sprint("LinkTake of ", no, ", ", why), l, func(l impl.Link) linkAnswer {
				n, up := impl.LinkTake(l, impl.Piece{No: no, Text: "came"})
				return linkAnswer{link: n, up: up}
			})
			askLinkMemory(t, fmt.Sprint("LinkAck of ", no, ", ", why), l, func(l impl.Link) linkAnswer {
				n, ok := impl.LinkAck(l, no)
				return linkAnswer{link: n, ok: ok}
			})
		}
	}
}
