package tests

import (
	"fmt"
	"math"
	"reflect"
	"slices"
	"strings"
	"testing"

	"loop.example/g00189/impl"
)

const (
	mostGrams  = 12
	mostProcs  = 8
	mostParked = 20
	mostPlaces = 3
	lastNo     = 100000
)

// A told payload: its kind, its pid, its text, and whether there is one.
type mailTold struct {
	kind int
	pid  int
	text string
	ok   bool
}

func mailRead(s string) mailTold {
	kind, pid, text, ok := impl.MailRead(s)
	return mailTold{kind, pid, text, ok}
}

func wordPieces(pid int, text string) []piece {
	return append(numPieces(1, pid, len(text)), piece{text, false})
}

func movePieces(text string) []piece {
	return append(numPieces(2, len(text)), piece{text, false})
}

func wordBytes(pid int, text string) string { return joined(wordPieces(pid, text)) }

func moveBytes(text string) string { return joined(movePieces(text)) }

// mailByRules: the payload of which the text is what is written, if there is one.
func mailByRules(s string) mailTold {
	r := &looseReader{rest: s}
	m := mailTold{kind: r.num(), ok: true}
	again := ""
	switch m.kind {
	case 1:
		m.pid = r.num()
		m.text = r.text()
		again = wordBytes(m.pid, m.text)
	case 2:
		m.text = r.text()
		again = moveBytes(m.text)
	}
	if r.bad || m.pid < 0 || again != s || again == "" {
		return mailTold{}
	}
	return m
}

func askMail(t *testing.T, why string, s string, want mailTold) {
	t.Helper()
	if got := mailRead(s); got != want {
		t.Errorf("%s: MailRead of %.200q tells %.200q, not %.200q", why, s, fmt.Sprint(got), fmt.Sprint(want))
	}
}

func askNoMail(t *testing.T, why string, s string) {
	t.Helper()
	askMail(t, why, s, mailTold{})
}

// askMailByRules asks, too, that what is read is written again as the same.
func askMailByRules(t *testing.T, why string, s string) bool {
	t.Helper()
	want := mailByRules(s)
	askMail(t, why, s, want)
	got := mailRead(s)
	if got.ok && mailWritten(got) != s {
		t.Errorf("%s: %.200q is written again as %.200q", why, s, mailWritten(got))
	}
	return got.ok
}

func mailWritten(m mailTold) string {
	if m.kind == impl.MlWord {
		return impl.MailWord(m.pid, m.text)
	}
	return impl.MailMove(m.text)
}

// mailTexts: texts of values and of processes, and texts of neither, short and long ones.
func mailTexts() []string {
	list := append(edgeTexts(), strings.Repeat("\x00", 1<<17), "(a b)", "\x01\x01", "\x02\x01\x01", "\x01\x05\x02ab", "\x02\x01x")
	for _, text := range noValues() {
		list = append(list, text)
	}
	for _, nodes := range valuesToRead() {
		list = append(list, nodeBytes(nodes...))
	}
	_, procs := procsToRead()
	for _, p := range procs {
		list = append(list, procBytes(p), procBytes(p)+"\x00")
	}
	return list
}

func TestWorldNumbers(t *testing.T) {
	kinds := []int{impl.GrData, impl.GrAck, impl.MlWord, impl.MlMove}
	limits := []int{impl.MaxGrams, impl.MaxProcs, impl.MaxParked, impl.MaxPlaces, impl.MaxNo}
	if !slices.Equal(kinds, []int{1, 2, 1, 2}) || !slices.Equal(limits, []int{mostGrams, mostProcs, mostParked, mostPlaces, lastNo}) {
		t.Error("numbers", kinds, limits)
	}
}

func TestMailForms(t *testing.T) {
	for _, x := range []struct {
		got  string
		want string
	}{
		{impl.MailWord(5, "ab"), "\x01\x05\x02ab"},
		{impl.MailWord(0, ""), "\x01\x00\x00"},
		{impl.MailWord(0, "a"), "\x01\x00\x01a"},
		{impl.MailWord(127, "\x01\x01"), "\x01\x7f\x02\x01\x01"},
		{impl.MailWord(128, "\x01\x01"), "\x01\x80\x01\x02\x01\x01"},
		{impl.MailWord(300, "(a b)"), "\x01\xac\x02\x05(a b)"},
		{impl.MailWord(1000000000, "x"), "\x01\x80\x94\xeb\xdc\x03\x01x"},
		{impl.MailWord(1000000001, "x"), "\x01\x81\x94\xeb\xdc\x03\x01x"},
		{impl.MailWord(math.MaxInt, "x"), "\x01\xff\xff\xff\xff\xff\xff\xff\xff\x7f\x01x"},
		{impl.MailWord(1, strings.Repeat("x", 128)), "\x01\x01\x80\x01" + strings.Repeat("x", 128)},
		{impl.MailMove(""), "\x02\x00"},
		{impl.MailMove("x"), "\x02\x01x"},
		{impl.MailMove("\x02\x01x"), "\x02\x03\x02\x01x"},
		{impl.MailMove(strings.Repeat("x", 127)), "\x02\x7f" + strings.Repeat("x", 127)},
		{impl.MailMove(strings.Repeat("\x00", 300)), "\x02\xac\x02" + strings.Repeat("\x00", 300)},
	} {
		if x.got != x.want {
			t.Errorf("a payload is %.200q, not %.200q", x.got, x.want)
		}
	}
}

func TestMailWordOfPidsBelowNought(t *testing.T) {
	for _, pid := range []int{-1, -2, -5, -128, -lastPid, -lastPid - 1, math.MinInt + 1, math.MinInt, -1 << 32} {
		for _, text := range mailTexts() {
			if s := impl.MailWord(pid, text); s != "" {
				t.Errorf("MailWord of %d is %.200q", pid, s)
			}
		}
	}
}

// Promise 13: payloads are read as they were.
func TestMailIsReadAsItWas(t *testing.T) {
	pids := append(edgeNums(), 5, 40, lastPid-1, lastPid, lastPid+1)
	for _, text := range mailTexts() {
		s := impl.MailMove(text)
		if s != moveBytes(text) {
			t.Errorf("MailMove of %.200q is %.200q", text, s)
		}
		askMail(t, "a move", s, mailTold{impl.MlMove, 0, text, true})
		for _, pid := range pids {
			s := impl.MailWord(pid, text)
			if s != wordBytes(pid, text) {
				t.Errorf("MailWord of %d and %.200q is %.200q", pid, text, s)
			}
			askMail(t, "a word", s, mailTold{impl.MlWord, pid, text, true})
		}
	}
}

// A payload's text may be a payload, to any depth: it is not gone into.
func TestMailOfMail(t *testing.T) {
	s := "\x01\x01"
	for pid := range 200 {
		word, move := impl.MailWord(pid, s), impl.MailMove(s)
		askMail(t, "a word of it", word, mailTold{impl.MlWord, pid, s, true})
		askMail(t, "a move of it", move, mailTold{impl.MlMove, 0, s, true})
		s = []string{word, move}[pid%2]
	}
}

// mailForms: payloads of both kinds, each by its pieces.
func mailForms() [][]piece {
	var list [][]piece
	for _, text := range []string{"", "a", "\x01\x01", "\x00", "\x80", "\x02\x01x", strings.Repeat("y", 200), nodeBytes(chain(20).Nodes...)} {
		list = append(list, movePieces(text))
		for _, pid := range []int{0, 1, 5, 127, 128, lastPid, lastPid + 1, math.MaxInt} {
			list = append(list, wordPieces(pid, text))
		}
	}
	_, procs := procsToRead()
	for _, p := range procs {
		list = append(list, movePieces(procBytes(p)))
	}
	return list
}

func TestMailReadOfOtherKinds(t *testing.T) {
	askNoMail(t, "the empty text", "")
	for b := range 256 {
		askNoMail(t, "one byte", string([]byte{byte(b)}))
	}
	for _, kind := range append(edgeNums(), 3, 4, 5, 255, 256, 257, 258, 1<<32+1, 1<<32+2) {
		if kind == 1 || kind == 2 {
			continue
		}
		for _, text := range []string{"", "a", "\x01\x01", strings.Repeat("x", 300)} {
			askNoMail(t, fmt.Sprint("a move of kind ", kind), numBytes(kind, len(text))+text)
			askNoMail(t, fmt.Sprint("a word of kind ", kind), numBytes(kind, 5, len(text))+text)
		}
		askNoMail(t, fmt.Sprint("kind ", kind), numBytes(kind))
	}
}

// Each kind's form with the other kind's number is none, but where it happens to be right in that way, too.
func TestMailReadOfTheOtherKind(t *testing.T) {
	askNoMail(t, "a move as a word", "\x01\x05\x00\x01\x01\x05")
	askNoMail(t, "a word as a move", "\x02\x05\x02ab")
	askMail(t, "a word of pid 1 as a move", "\x02\x01\x00", mailTold{2, 0, "\x00", true})
	askMail(t, "a move of one byte as a word", "\x01\x01\x00", mailTold{1, 1, "", true})
}

func TestMailReadOfWhatIsCutShort(t *testing.T) {
	for _, pieces := range mailForms() {
		s := joined(pieces)
		if !mailRead(s).ok {
			t.Errorf("%.200q is not read", s)
		}
		for at := range len(s) {
			askNoMail(t, "cut short", s[:at])
		}
		for _, more := range surrounds() {
			if more != "" {
				askNoMail(t, "with something behind it", s+more)
			}
		}
		askNoMail(t, "twice", s+s)
		askNoMail(t, "with a nought ahead of it", "\x00"+s)
	}
}

func TestMailReadOfLongerNumbers(t *testing.T) {
	asked := 0
	for _, pieces := range mailForms() {
		for i, x := range pieces {
			if !x.isNum {
				continue
			}
			for _, form := range longerForms(x.bytes) {
				other := slices.Clone(pieces)
				other[i].bytes = form
				askNoMail(t, "a longer number", joined(other))
				asked++
			}
		}
	}
	if asked < 500 {
		t.Error("so few were asked", asked)
	}
	askNoMail(t, "a pid of ten bytes", "\x01\x80\x80\x80\x80\x80\x80\x80\x80\x80\x01\x01x")
	askNoMail(t, "a pid that wraps round", "\x01\xff\xff\xff\xff\xff\xff\xff\xff\xff\x01\x01x")
}

func TestMailReadOfTextsBeyondTheEnd(t *testing.T) {
	for _, text := range []string{"", "a", "ab", strings.Repeat("x", 127), strings.Repeat("x", 500)} {
		for _, length := range []int{len(text) + 1, len(text) + 2, len(text) + 128, 1 << 31, 1 << 32, 1 << 62, math.MaxInt - 1, math.MaxInt} {
			askNoMail(t, "a word", numBytes(1, 5, length)+text)
			askNoMail(t, "a move", numBytes(2, length)+text)
		}
		if text != "" {
			askNoMail(t, "a word whose text is told shorter", numBytes(1, 5, len(text)-1)+text)
			askNoMail(t, "a move whose text is told shorter", numBytes(2, len(text)-1)+text)
		}
	}
}

// Whether the text is that of a value or of a process is not asked.
func TestMailReadOfWhatIsNoValue(t *testing.T) {
	for why, text := range noValues() {
		askMail(t, why, wordBytes(7, text), mailTold{1, 7, text, true})
		askMail(t, why, moveBytes(text), mailTold{2, 0, text, true})
	}
	c, _ := procsToRead()
	for _, text := range []string{"", "x", "\x00", "\x01\x01", "no process"} {
		if _, ok := impl.ProcRead(c, text); ok {
			t.Fatal("that is a process", text)
		}
		askMail(t, "no process", moveBytes(text), mailTold{2, 0, text, true})
	}
}

func TestMailReadOfShortTexts(t *testing.T) {
	read, refused := 0, 0
	for _, s := range wordsOver("\x00\x01\x02\x03\x80\x81", 6) {
		if askMailByRules(t, "short", s) {
			read++
		} else {
			refused++
		}
	}
	if read < 500 || refused < 30000 {
		t.Error("so many were read, and refused", read, refused)
	}
}

func TestMailReadOfOneByteTurned(t *testing.T) {
	t.Parallel()
	read, refused := 0, 0
	for _, pieces := range mailForms() {
		turned(joined(pieces), func(s string) {
			if askMailByRules(t, "turned", s) {
				read++
			} else {
				refused++
			}
		})
	}
	if read < 1000 || refused < 10000 {
		t.Error("so many were read, and refused", read, refused)
	}
}

func TestMailReadOfAnyBytes(t *testing.T) {
	r := &aRandom{x: 1301}
	read := 0
	for range 200000 {
		b := []byte{byte(1 + r.below(2))}
		for range r.below(12) {
			b = append(b, byte(r.below([]int{4, 16, 256}[r.below(3)])))
		}
		if askMailByRules(t, "any", string(b)) {
			read++
		}
		if t.Failed() {
			return
		}
	}
	if read < 2000 {
		t.Error("so few were read", read)
	}
}

func sameTextLists(a [][]string, b [][]string) bool {
	return slices.EqualFunc(a, b, func(x []string, y []string) bool { return slices.Equal(x, y) })
}

func sameHome(a impl.Home, b impl.Home) bool { return a.At == b.At && sameProc(a.P, b.P) }

func sameWorld(a impl.World, b impl.World) bool {
	return sameCode(a.Code, b.Code) && a.Places == b.Places && a.Next == b.Next &&
		slices.EqualFunc(a.Homes, b.Homes, sameHome) && slices.EqualFunc(a.Links, b.Links, sameLink) &&
		slices.Equal(a.Grams, b.Grams) && slices.Equal(a.Parked, b.Parked) && sameTextLists(a.Gave, b.Gave) && sameTextLists(a.Took, b.Took)
}

func cloneTextLists(list [][]string) [][]string {
	list = slices.Clone(list)
	for i := range list {
		list[i] = slices.Clone(list[i])
	}
	return list
}

func cloneWorld(w impl.World) impl.World {
	w.Code = cloneCode(w.Code)
	w.Homes, w.Links = slices.Clone(w.Homes), slices.Clone(w.Links)
	for i := range w.Homes {
		w.Homes[i].P = cloneProc(w.Homes[i].P)
	}
	for i := range w.Links {
		w.Links[i] = cloneLink(w.Links[i])
	}
	w.Grams, w.Parked = slices.Clone(w.Grams), slices.Clone(w.Parked)
	w.Gave, w.Took = cloneTextLists(w.Gave), cloneTextLists(w.Took)
	return w
}

func toldWorld(w impl.World) string {
	var homes []string
	for _, h := range w.Homes {
		homes = append(homes, fmt.Sprint(h.P.Pid, " at ", h.At))
	}
	var links []string
	for i, l := range w.Links {
		one := fmt.Sprint("sent ", l.Sent, " acked ", l.Acked, " got ", l.Got)
		if i < len(w.Gave) && i < len(w.Took) {
			one += fmt.Sprint(" gave ", len(w.Gave[i]), " took ", len(w.Took[i]))
		}
		links = append(links, one)
	}
	return fmt.Sprintf("%d places, homes %q, %d links %.900q, %d gave, %d took, grams %.300q, parked %.300q, next %d",
		w.Places, homes, len(w.Links), links, len(w.Gave), len(w.Took), fmt.Sprint(w.Grams), fmt.Sprint(w.Parked), w.Next)
}

// worldByRules: whether it is right, as the document tells it, one by one.
func worldByRules(w impl.World) bool {
	isPlace := func(n int) bool { return n > -1 && n < w.Places }
	if !impl.CodeOk(w.Code) || w.Places != 1 && w.Places != 2 && w.Places != 3 || len(w.Homes) > 8 {
		return false
	}
	for _, h := range w.Homes {
		if !isPlace(h.At) || !procByRules(w.Code, h.P) {
			return false
		}
	}
	ways := []int{0, 1, 4, 9}[w.Places]
	if len(w.Links) != ways || len(w.Gave) != ways || len(w.Took) != ways {
		return false
	}
	for i, l := range w.Links {
		if !linkByRules(l) || len(w.Gave[i]) != l.Sent || len(w.Took[i]) != l.Got {
			return false
		}
	}
	if len(w.Grams) > 12 || len(w.Parked) > 20 || w.Next < 1 || w.Next > 1000000000 {
		return false
	}
	for _, g := range w.Grams {
		if g.Kind != 1 && g.Kind != 2 || !isPlace(g.From) || !isPlace(g.To) || g.P.No < 0 || g.P.No > 100000 || g.Kind == 2 && len(g.P.Text) > 0 {
			return false
		}
	}
	return !slices.ContainsFunc(w.Parked, func(p impl.Parked) bool { return !isPlace(p.At) })
}

func homeByRules(w impl.World, pid int) int {
	for i, h := range w.Homes {
		if h.P.Pid == pid {
			return i
		}
	}
	return -1
}

// whereByRules goes by the numbers of the links, and works out of each from where and to where it goes.
func whereByRules(w impl.World, pid int) int {
	if home := homeByRules(w, pid); home != -1 {
		return w.Homes[home].At
	}
	for number, l := range w.Links {
		if w.Places < 1 || number >= len(w.Gave) {
			break
		}
		for at, s := range w.Gave[number] {
			if at < l.Got {
				continue
			}
			m := mailByRules(s)
			if !m.ok || m.kind != 2 {
				continue
			}
			if p, ok := procUnpackedByRules(w.Code, m.text); ok && p.Pid == pid {
				return number % w.Places
			}
		}
	}
	return -1
}

func askWorldOk(t *testing.T, why string, w impl.World, want bool) {
	t.Helper()
	if got := impl.WorldOk(w); got != want {
		t.Errorf("%s: WorldOk tells %v of %s", why, got, toldWorld(w))
	}
}

func askHome(t *testing.T, why string, w impl.World, pid int, want int) {
	t.Helper()
	if got := impl.HomeOf(w, pid); got != want {
		t.Errorf("%s: HomeOf %d tells %d, not %d, of %s", why, pid, got, want, toldWorld(w))
	}
}

func askWhere(t *testing.T, why string, w impl.World, pid int, want int) {
	t.Helper()
	if got := impl.WhereIs(w, pid); got != want {
		t.Errorf("%s: WhereIs %d tells %d, not %d, of %s", why, pid, got, want, toldWorld(w))
	}
}

// bareWorld: one with nothing in it, and as many links as its places ask for.
func bareWorld(places int) impl.World {
	c, _ := machinesToAsk()
	w := impl.World{Code: c, Places: places, Next: 1}
	return withWays(w, places*places)
}

// withWays: the world with so many new links, and nothing that was handed in or up.
func withWays(w impl.World, count int) impl.World {
	w.Links, w.Gave, w.Took = make([]impl.Link, count), make([][]string, count), make([][]string, count)
	return w
}

// setLink puts a link into a world, with as much handed in and up as it tells of, where that can be.
func setLink(w *impl.World, number int, l impl.Link) {
	w.Links[number] = l
	w.Gave[number], w.Took[number] = nil, nil
	if l.Sent > 0 && l.Sent < 1<<20 {
		w.Gave[number] = make([]string, l.Sent)
	}
	if l.Got > 0 && l.Got < 1<<20 {
		w.Took[number] = make([]string, l.Got)
	}
}

// aProc: a small process of that pid, of a code of machinesToAsk; no two of them are alike.
func aProc(pid int) impl.Proc {
	_, machines := machinesToAsk()
	return impl.Proc{Pid: pid, M: impl.Tidy(machines[abs(pid)%4]), Box: mail(abs(pid) % 3), Out: printed(abs(pid) % 4)}
}

func abs(n int) int { return max(n, -n, 0) }

// procMove: the payload that moves the process of that pid.
func procMove(pid int) string { return moveBytes(procBytes(aProc(pid))) }

func homesOf(at int, pids ...int) []impl.Home {
	var list []impl.Home
	for _, pid := range pids {
		list = append(list, impl.Home{At: at, P: aProc(pid)})
	}
	return list
}

func gramsOf(count int, g impl.Gram) []impl.Gram { return slices.Repeat([]impl.Gram{g}, count) }

// busyWorld: one with something of all.
func busyWorld(places int) impl.World {
	w := bareWorld(places)
	last := places - 1
	w.Homes = slices.Concat(homesOf(0, 1, 2), homesOf(last, 3, 7))
	for number := range w.Links {
		setLink(&w, number, []impl.Link{{}, aLink(5, 1, 3), aLink(9, 2, 3, 4, 6), aLink(7, 7, 7)}[(number+1)%4])
	}
	w.Grams = []impl.Gram{
		{Kind: 1, From: 0, To: last, P: impl.Piece{No: 1, Text: payload(1)}},
		{Kind: 1, From: last, To: 0, P: impl.Piece{No: 0}},
		{Kind: 2, From: last, To: 0, P: impl.Piece{No: 3}},
	}
	w.Parked = []impl.Parked{{At: last, To: 9, Text: "\x01\x01"}, {At: 0, To: 5}}
	w.Next = 8
	return w
}

// fullWorld: one with as much of all as there may be.
func fullWorld(places int) impl.World {
	w := bareWorld(places)
	last := places - 1
	w.Homes = homesOf(last, 1, 2, 3, 4, 5, 6, 7, lastPid)
	for number := range w.Links {
		setLink(&w, number, aLink(530, 500, 510, 511, 513))
	}
	setLink(&w, places*places-1, aLink(lastNo, lastNo-30, lastNo))
	w.Grams = gramsOf(mostGrams, impl.Gram{Kind: 1, From: last, To: last, P: impl.Piece{No: lastNo, Text: "x"}})
	w.Parked = slices.Repeat([]impl.Parked{{At: last, To: lastPid, Text: "\x01\x01"}}, mostParked)
	w.Next = lastPid
	return w
}

// rightWorlds are right just so.
func rightWorlds() map[string]impl.World {
	list := map[string]impl.World{}
	for places := 1; places <= mostPlaces; places++ {
		list[fmt.Sprint("bare, of ", places)] = bareWorld(places)
		list[fmt.Sprint("busy, of ", places)] = busyWorld(places)
		list[fmt.Sprint("full, of ", places)] = fullWorld(places)
	}
	return list
}

// A worldTurn turns one thing of a world, which is right then, or not.
type worldTurn struct {
	why   string
	turn  func(w *impl.World)
	right bool
}

func codeTurns() []worldTurn {
	var list []worldTurn
	for why, c := range brokenCodes() {
		list = append(list, worldTurn{why, func(w *impl.World) { w.Code = c }, false})
		list = append(list, worldTurn{why + ", and nobody there", func(w *impl.World) { w.Code, w.Homes = c, nil }, false})
	}
	return append(list, worldTurn{"no code, and nobody there", func(w *impl.World) { w.Code, w.Homes = impl.Code{}, nil }, true})
}

func placeTurns() []worldTurn {
	var list []worldTurn
	for _, places := range []int{0, -1, -2, -3, 4, 5, -mostPlaces, 1 << 32, -1 << 32, math.MaxInt, math.MinInt} {
		list = append(list, worldTurn{fmt.Sprint(places, " places"), func(w *impl.World) { w.Places = places }, false})
		// With just as many links as these ask for, where there can be as many: else with as many as an int comes to that wraps round.
		if count := places * places; count >= 0 && count < 100 {
			list = append(list, worldTurn{fmt.Sprint(places, " places and their links"), func(w *impl.World) {
				*w = withWays(impl.World{Code: w.Code, Places: places, Next: 1}, count)
			}, false})
		}
	}
	for places := 1; places <= mostPlaces; places++ {
		list = append(list, worldTurn{fmt.Sprint(places, " places and their links"), func(w *impl.World) {
			*w = withWays(impl.World{Code: w.Code, Places: places, Next: 1}, places*places)
		}, true})
	}
	return list
}

func homeTurns() []worldTurn {
	var list []worldTurn
	add := func(why string, right bool, homes func(w *impl.World) []impl.Home) {
		list = append(list, worldTurn{why, func(w *impl.World) { w.Homes = homes(w) }, right})
	}
	for count := range 12 {
		add(fmt.Sprint(count, " homes"), count <= mostProcs, func(w *impl.World) []impl.Home { return slices.Repeat(homesOf(0, 5), count) })
	}
	add("very many homes", false, func(w *impl.World) []impl.Home { return slices.Repeat(homesOf(0, 5), 5000) })
	add("two of one pid", true, func(w *impl.World) []impl.Home { return append(homesOf(0, 5, 6, 5), homesOf(w.Places-1, 5)...) })
	add("none at a place", true, func(w *impl.World) []impl.Home { return homesOf(w.Places-1, 5) })
	for _, count := range []int{1, mostProcs} {
		for at := range count {
			put := func(why string, right bool, turn func(w *impl.World, h *impl.Home)) {
				add(fmt.Sprint(why, ", home ", at, " of ", count), right, func(w *impl.World) []impl.Home {
					homes := slices.Repeat(homesOf(0, 5), count)
					turn(w, &homes[at])
					return homes
				})
			}
			put("at the last place", true, func(w *impl.World, h *impl.Home) { h.At = w.Places - 1 })
			put("at no place", false, func(w *impl.World, h *impl.Home) { h.At = w.Places })
			put("at MaxPlaces", false, func(w *impl.World, h *impl.Home) { h.At = mostPlaces })
			for _, n := range []int{-1, -2, math.MaxInt, math.MinInt, 1 << 32} {
				put(fmt.Sprint("at ", n), false, func(w *impl.World, h *impl.Home) { h.At = n })
			}
			put("no process", false, func(w *impl.World, h *impl.Home) { h.P = impl.Proc{} })
			put("of pid nought", false, func(w *impl.World, h *impl.Home) { h.P.Pid = 0 })
			put("of the last pid", true, func(w *impl.World, h *impl.Home) { h.P.Pid = lastPid })
			put("beyond the last pid", false, func(w *impl.World, h *impl.Home) { h.P.Pid = lastPid + 1 })
			put("of no value in the box", false, func(w *impl.World, h *impl.Home) { h.P.Box = words("") })
			put("of too much printed", false, func(w *impl.World, h *impl.Home) { h.P.Out = printed(41) })
			put("of no place of the code", false, func(w *impl.World, h *impl.Home) { h.P = aProc(4); h.P.M.At = 3 })
		}
	}
	return list
}

// countTurns: one too few and one too many of the links, of what was handed in and of what was handed up, or of all of these.
func countTurns() []worldTurn {
	var list []worldTurn
	for which := 1; which < 8; which++ {
		for _, more := range []int{-1, 1} {
			list = append(list, worldTurn{fmt.Sprint("lists ", which, " of ", more, " more"), func(w *impl.World) {
				count := w.Places * w.Places
				if which&1 != 0 {
					w.Links = append(w.Links, impl.Link{})[:count+more]
				}
				if which&2 != 0 {
					w.Gave = append(w.Gave, nil)[:count+more]
				}
				if which&4 != 0 {
					w.Took = append(w.Took, nil)[:count+more]
				}
			}, false})
			list = append(list, worldTurn{fmt.Sprint("empty lists ", which, " of ", more, " more"), func(w *impl.World) {
				other := withWays(*w, w.Places*w.Places+more)
				*w = withWays(*w, w.Places*w.Places)
				if which&1 != 0 {
					w.Links = other.Links
				}
				if which&2 != 0 {
					w.Gave = other.Gave
				}
				if which&4 != 0 {
					w.Took = other.Took
				}
			}, false})
		}
	}
	return list
}

// linkTurns: one link is another one, the first, the last and one between; of those on which very much was handed in, the last one alone, as each takes its time.
func linkTurns() []worldTurn {
	var list []worldTurn
	long := false
	add := func(why string, right bool, turn func(w *impl.World, number int)) {
		for which := range 3 {
			if long && which != 1 {
				continue
			}
			list = append(list, worldTurn{fmt.Sprint(why, ", link ", which), func(w *impl.World) {
				last := w.Places*w.Places - 1
				turn(w, []int{0, last, last / 2}[which])
			}, right})
		}
	}
	for why, l := range allLinks() {
		long = l.Sent > 1000 || l.Got > 1000
		_, broken := brokenLinks()[why]
		add(why, !broken, func(w *impl.World, number int) { setLink(w, number, l) })
		if broken {
			continue
		}
		for _, more := range []int{-1, 1, 2} {
			if l.Sent+more >= 0 {
				add(fmt.Sprint(why, ", gave ", more, " more"), false, func(w *impl.World, number int) {
					setLink(w, number, l)
					w.Gave[number] = make([]string, l.Sent+more)
				})
			}
			if l.Got+more >= 0 {
				add(fmt.Sprint(why, ", took ", more, " more"), false, func(w *impl.World, number int) {
					setLink(w, number, l)
					w.Took[number] = make([]string, l.Got+more)
				})
			}
		}
		if l.Sent != l.Got {
			add(why+", gave what it took", false, func(w *impl.World, number int) {
				setLink(w, number, l)
				w.Gave[number] = w.Took[number]
			})
			add(why+", took what it gave", false, func(w *impl.World, number int) {
				setLink(w, number, l)
				w.Took[number] = w.Gave[number]
			})
		}
	}
	return list
}

func gramTurns() []worldTurn {
	var list []worldTurn
	for count := range 16 {
		for kind := 1; kind <= 2; kind++ {
			list = append(list, worldTurn{fmt.Sprint(count, " grams of kind ", kind), func(w *impl.World) { w.Grams = gramsOf(count, impl.Gram{Kind: kind}) }, count <= mostGrams})
		}
	}
	add := func(why string, right bool, turn func(w *impl.World, g *impl.Gram)) {
		for _, count := range []int{1, 2, mostGrams} {
			for _, at := range []int{0, count / 2, count - 1} {
				for kind := 1; kind <= 2; kind++ {
					list = append(list, worldTurn{fmt.Sprint(why, ", gram ", at, " of ", count, ", kind ", kind), func(w *impl.World) {
						w.Grams = gramsOf(count, impl.Gram{Kind: 3 - kind, P: impl.Piece{No: 1}})
						w.Grams[at].Kind = kind
						turn(w, &w.Grams[at])
					}, right})
				}
			}
		}
	}
	for _, n := range []int{-1, -2, mostPlaces, mostPlaces + 1, math.MaxInt, math.MinInt, 1 << 32} {
		add(fmt.Sprint("from ", n), false, func(w *impl.World, g *impl.Gram) { g.From = n })
		add(fmt.Sprint("to ", n), false, func(w *impl.World, g *impl.Gram) { g.To = n })
	}
	add("from the last place", true, func(w *impl.World, g *impl.Gram) { g.From = w.Places - 1 })
	add("to the last place", true, func(w *impl.World, g *impl.Gram) { g.To = w.Places - 1 })
	add("from no place", false, func(w *impl.World, g *impl.Gram) { g.From = w.Places })
	add("to no place", false, func(w *impl.World, g *impl.Gram) { g.To = w.Places })
	add("from the last place to itself", true, func(w *impl.World, g *impl.Gram) { g.From, g.To = w.Places-1, w.Places-1 })
	for _, kind := range []int{0, -1, -2, 3, 4, math.MaxInt, math.MinInt, 1<<32 + 1} {
		add(fmt.Sprint("of kind ", kind), false, func(w *impl.World, g *impl.Gram) { g.Kind = kind })
	}
	for _, no := range []int{-1, -lastNo, lastNo + 1, lastNo + 2, math.MaxInt, math.MinInt, 1 << 32} {
		add(fmt.Sprint("number ", no), false, func(w *impl.World, g *impl.Gram) { g.P.No = no })
	}
	for _, no := range []int{0, 1, 99, lastNo - 1, lastNo} {
		add(fmt.Sprint("number ", no), true, func(w *impl.World, g *impl.Gram) { g.P.No = no })
	}
	for _, text := range []string{"x", "\x00", "\x01\x05\x02ab", strings.Repeat("x", 1<<16)} {
		add("data with a text", true, func(w *impl.World, g *impl.Gram) { g.Kind, g.P.Text = impl.GrData, text })
		add("told of with a text", false, func(w *impl.World, g *impl.Gram) { g.Kind, g.P.Text = impl.GrAck, text })
	}
	add("without a text", true, func(w *impl.World, g *impl.Gram) { g.P.Text = "" })
	return list
}

func parkedTurns() []worldTurn {
	var list []worldTurn
	for count := range 25 {
		list = append(list, worldTurn{fmt.Sprint(count, " parked"), func(w *impl.World) { w.Parked = make([]impl.Parked, count) }, count <= mostParked})
	}
	add := func(why string, right bool, turn func(w *impl.World, p *impl.Parked)) {
		for _, count := range []int{1, 2, mostParked} {
			for _, at := range []int{0, count / 2, count - 1} {
				list = append(list, worldTurn{fmt.Sprint(why, ", parked ", at, " of ", count), func(w *impl.World) {
					w.Parked = make([]impl.Parked, count)
					turn(w, &w.Parked[at])
				}, right})
			}
		}
	}
	for _, n := range []int{-1, -2, mostPlaces, math.MaxInt, math.MinInt, 1 << 32} {
		add(fmt.Sprint("at ", n), false, func(w *impl.World, p *impl.Parked) { p.At = n })
	}
	add("at the last place", true, func(w *impl.World, p *impl.Parked) { p.At = w.Places - 1 })
	add("at no place", false, func(w *impl.World, p *impl.Parked) { p.At = w.Places })
	// For whom, and what, is not asked.
	for _, n := range []int{-1, 0, 1, lastPid, lastPid + 1, math.MaxInt, math.MinInt} {
		add(fmt.Sprint("for ", n), true, func(w *impl.World, p *impl.Parked) { p.To = n })
	}
	for why, text := range noValues() {
		add(why, true, func(w *impl.World, p *impl.Parked) { p.Text = text })
	}
	return list
}

func nextTurns() []worldTurn {
	var list []worldTurn
	for _, next := range []int{0, -1, -lastPid, lastPid + 1, math.MaxInt, math.MinInt, 1 << 32} {
		list = append(list, worldTurn{fmt.Sprint("next ", next), func(w *impl.World) { w.Next = next }, false})
	}
	// Whether there is one of that pid already is not asked.
	for _, next := range []int{1, 2, 3, 7, 128, lastPid - 1, lastPid} {
		list = append(list, worldTurn{fmt.Sprint("next ", next), func(w *impl.World) { w.Next = next }, true})
	}
	return list
}

func worldTurns() []worldTurn {
	return slices.Concat(codeTurns(), placeTurns(), homeTurns(), countTurns(), linkTurns(), gramTurns(), parkedTurns(), nextTurns())
}

// eachTurned asks of bare and busy worlds of each number of places, of which one thing was turned.
func eachTurned(ask func(why string, w impl.World, right bool)) {
	for places := 1; places <= mostPlaces; places++ {
		for _, x := range worldTurns() {
			for i, w := range []impl.World{bareWorld(places), busyWorld(places)} {
				x.turn(&w)
				ask(fmt.Sprint(x.why, ", ", []string{"bare", "busy"}[i], ", of ", places), w, x.right)
			}
		}
	}
}

func TestWorldOkAtEachEdge(t *testing.T) {
	t.Parallel()
	for why, w := range rightWorlds() {
		askWorldOk(t, why, w, true)
	}
	right, broken := 0, 0
	eachTurned(func(why string, w impl.World, want bool) {
		askWorldOk(t, why, w, want)
		if want {
			right++
		} else {
			broken++
		}
		if worldByRules(w) != want {
			t.Errorf("%s: the rules tell %v", why, !want)
		}
	})
	askWorldOk(t, "zero", impl.World{}, false)
	if right < 1000 || broken < 1000 {
		t.Error("so many were right, and not right", right, broken)
	}
}

func TestWorldOkOfProcs(t *testing.T) {
	for places := 1; places <= mostPlaces; places++ {
		w := bareWorld(places)
		for why, p := range rightProcs() {
			w.Homes = append(homesOf(0, 1, 2), impl.Home{At: places - 1, P: p})
			askWorldOk(t, why, w, true)
		}
		for why, p := range brokenProcs() {
			w.Homes = append(homesOf(0, 1, 2), impl.Home{At: places - 1, P: p})
			askWorldOk(t, why, w, false)
			w.Homes = []impl.Home{{P: p}}
			askWorldOk(t, why, w, false)
		}
	}
	// A process is right for the world's own code.
	w := bareWorld(1)
	w.Code, w.Homes = codeFrom(impl.Pool{}, "back"), homesOf(0, 4)
	askWorldOk(t, "its own code", w, true)
	w.Homes[0].P.M.At = 2
	askWorldOk(t, "beyond its own code", w, false)
	w.Code, _ = machinesToAsk()
	askWorldOk(t, "another code", w, true)
}

// newWorld: what WorldNew is to tell of a code whose main begins there.
func newWorld(c impl.Code, at int, places int) impl.World {
	m := impl.Machine{Pool: poolOf(nilNode(), pairNode(0, 0)), At: at, E: 1}
	w := impl.World{Code: c, Places: places, Homes: []impl.Home{{At: 0, P: impl.Proc{Pid: 1, M: m}}}, Next: 2}
	return withWays(w, places*places)
}

func askNewWorld(t *testing.T, why string, c impl.Code, places int, want impl.World, done bool) {
	t.Helper()
	w, ok := impl.WorldNew(c, places)
	if ok != done || !sameWorld(w, want) {
		t.Errorf("%s: WorldNew with %d places tells %v, %s\nnot %v, %s", why, places, ok, toldWorld(w), done, toldWorld(want))
	}
	if impl.WorldOk(w) != done {
		t.Errorf("%s: WorldOk of the new world with %d places is %v", why, places, !done)
	}
}

func TestWorldNew(t *testing.T) {
	bad := []int{0, -1, -2, -3, 4, 5, 100, 1 << 32, -1 << 32, math.MaxInt, math.MinInt}
	mains := map[int]impl.Code{
		0: codeFrom(impl.Pool{}, "back", impl.Def{Name: "main"}),
		2: codeFrom(mixedPool(), "lit 1, back, lit 2, back", impl.Def{Name: "f", At: 1, Args: 2}, impl.Def{Name: "main", At: 2}, impl.Def{Name: "g"}),
		3: codeFrom(impl.Pool{}, "back, back, back, back", impl.Def{Name: "main", At: 3}),
	}
	for _, x := range slices.Concat(talkers(), allPrograms()) {
		c := programOf(t, x.text)
		for places := 1; places <= mostPlaces; places++ {
			askNewWorld(t, x.text, c, places, newWorld(c, c.Defs[impl.DefOf(c, "main")].At, places), true)
		}
		askNewWorld(t, x.text, c, 0, impl.World{}, false)
		askNewWorld(t, x.text, c, 4, impl.World{}, false)
	}
	for at, c := range mains {
		for places := 1; places <= mostPlaces; places++ {
			askNewWorld(t, "a main", c, places, newWorld(c, at, places), true)
		}
		for _, places := range bad {
			askNewWorld(t, "as many places as there may not be", c, places, impl.World{}, false)
		}
	}
	for _, places := range append(bad, 1, 2, 3) {
		for why, c := range brokenCodes() {
			askNewWorld(t, why, c, places, impl.World{}, false)
		}
		askNewWorld(t, "nothing", impl.Code{}, places, impl.World{}, false)
		askNewWorld(t, "no main", codeFrom(impl.Pool{}, "back", impl.Def{Name: "mai"}, impl.Def{Name: "mainn"}, impl.Def{Name: "f"}), places, impl.World{}, false)
		for args := 1; args <= impl.MaxArgs; args++ {
			askNewWorld(t, "a main that takes something", codeFrom(impl.Pool{}, "back", impl.Def{Name: "main", Args: args}), places, impl.World{}, false)
		}
	}
}

func TestHomeOf(t *testing.T) {
	some := []int{math.MinInt, -lastPid, -1, 0, 1, 2, 3, 4, 5, 6, 7, 8, 9, lastPid, lastPid + 1, math.MaxInt}
	for _, pid := range some {
		askHome(t, "an empty world", impl.World{}, pid, -1)
		for places := 1; places <= mostPlaces; places++ {
			askHome(t, "nobody there", bareWorld(places), pid, -1)
		}
	}
	w := bareWorld(3)
	w.Homes = slices.Concat(homesOf(2, 7), homesOf(0, 3, lastPid), homesOf(1, 1, 3, 7), homesOf(2, 3, 9))
	for pid, want := range map[int]int{7: 0, 3: 1, lastPid: 2, 1: 3, 9: 7, 0: -1, 2: -1, 4: -1, -7: -1, lastPid + 1: -1, lastPid - 1: -1, math.MaxInt: -1, math.MinInt: -1} {
		askHome(t, "some", w, pid, want)
	}
	// One that is on its way has no home, nor has one for whom something is parked or that comes next.
	setLink(&w, 1, aLink(1, 0, 0))
	w.Gave[1], w.Links[1].Queue = words(procMove(5)), words(procMove(5))
	w.Parked, w.Next = []impl.Parked{{To: 6}}, 8
	for _, pid := range []int{5, 6, 8} {
		askHome(t, "no home", w, pid, -1)
	}
	// Homes of which there may be none are told by their pids all the same, and more of them than there may be, too.
	for _, pid := range some {
		w := impl.World{Homes: slices.Concat(homesOf(0, slices.Repeat([]int{10}, 300)...), homesOf(-4, pid, pid))}
		askHome(t, "not right", w, pid, 300)
		askHome(t, "not right", w, 10, 0)
		askHome(t, "not right", w, 11, -1)
	}
}

// wayWorld: a world of so many places in which on one link this was handed in, and so many of it handed up.
func wayWorld(places int, number int, got int, gave ...string) impl.World {
	w := bareWorld(places)
	setWay(&w, number, got, gave...)
	return w
}

func setWay(w *impl.World, number int, got int, gave ...string) {
	w.Links[number] = impl.Link{Sent: len(gave), Got: got, Queue: slices.Clone(gave)}
	w.Gave[number], w.Took[number] = slices.Clone(gave), slices.Clone(gave[:got])
}

func TestWhereIsOfHomes(t *testing.T) {
	for places := 1; places <= mostPlaces; places++ {
		for at := range places {
			w := bareWorld(places)
			w.Homes = slices.Concat(homesOf(0, 4), homesOf(at, 5, 6), homesOf(places-1, 5, 7))
			for pid, want := range map[int]int{4: 0, 5: at, 6: at, 7: places - 1, 0: -1, -1: -1, 1: -1, 8: -1, math.MaxInt: -1, math.MinInt: -1} {
				askWhere(t, "a home", w, pid, want)
			}
			// It has a home, whatever is on its way.
			for number := range w.Links {
				setWay(&w, number, 0, procMove(5), procMove(6))
			}
			askWorldOk(t, "homes and ways", w, true)
			askWhere(t, "a home, and on its way", w, 5, at)
			askWhere(t, "a home, and on its way", w, 6, at)
		}
	}
}

// Each link, each place of what was handed in, and each number of what was handed up.
func TestWhereIsOnItsWay(t *testing.T) {
	for places := 1; places <= mostPlaces; places++ {
		for number := range places * places {
			for count := 1; count <= 4; count++ {
				for at := range count {
					for got := range count + 1 {
						gave := []string{wordBytes(5, "\x01\x01"), procMove(6), "none", procMove(8)}[:count]
						gave[at] = procMove(5)
						w := wayWorld(places, number, got, gave...)
						askWorldOk(t, "on its way", w, true)
						want := -1
						if at >= got {
							want = number % places
						}
						askWhere(t, fmt.Sprint("at ", at, " of ", count, " on link ", number), w, 5, want)
						askWhere(t, "another one", w, 7, -1)
					}
				}
			}
		}
	}
}

// From each place to each: the number of a link is from where times Places, and to where.
func TestWhereIsByFromAndTo(t *testing.T) {
	for places := 1; places <= mostPlaces; places++ {
		for from := range places {
			for to := range places {
				w := wayWorld(places, from*places+to, 0, procMove(5))
				askWhere(t, fmt.Sprint("from ", from, " to ", to, " of ", places), w, 5, to)
			}
		}
	}
}

func TestWhereIsOfTwoWays(t *testing.T) {
	for places := 1; places <= mostPlaces; places++ {
		count := places * places
		for first := range count {
			for second := range count {
				if first == second {
					continue
				}
				w := bareWorld(places)
				setWay(&w, first, 1, procMove(7), procMove(5))
				setWay(&w, second, 0, procMove(6), procMove(5), procMove(7))
				askWhere(t, "on two ways", w, 5, min(first, second)%places)
				askWhere(t, "handed up on one of them", w, 7, second%places)
				askWhere(t, "on one", w, 6, second%places)
				// What was told of and is no more in Queue counts as little as what is in Queue still: Got alone does.
				w.Links[first].Acked, w.Links[first].Queue = 1, w.Links[first].Queue[1:]
				askWorldOk(t, "told of", w, true)
				askWhere(t, "on two ways, told of", w, 5, min(first, second)%places)
				setWay(&w, first, 2, procMove(7), procMove(5))
				askWhere(t, "handed up on one of two", w, 5, second%places)
				setWay(&w, second, 2, procMove(6), procMove(5), procMove(7))
				askWhere(t, "handed up on both", w, 5, -1)
			}
		}
	}
}

// What was handed in counts, not what waits to be told of, is held, was handed up, is a gram or is parked.
func TestWhereIsGoesByWhatWasHandedIn(t *testing.T) {
	w := wayWorld(2, 1, 1, procMove(6), "x", "y", "z")
	w.Links[1].Queue = words(procMove(5), procMove(5), procMove(5), procMove(5))
	w.Links[1].Held = []impl.Piece{{No: 2, Text: procMove(5)}}
	w.Took[1] = words(procMove(5))
	w.Grams = []impl.Gram{{Kind: 1, To: 1, P: impl.Piece{No: 2, Text: procMove(5)}}}
	w.Parked = []impl.Parked{{At: 1, To: 5, Text: procMove(5)}}
	w.Next = 5
	askWorldOk(t, "elsewhere", w, true)
	askWhere(t, "it was not handed in", w, 5, -1)
	askWhere(t, "it was handed up", w, 6, -1)
	w.Gave[1][3] = procMove(5)
	askWhere(t, "it was handed in", w, 5, 1)
}

// movesNobody: payloads that do not move the process of that pid.
func movesNobody(pid int) map[string]string {
	s := procBytes(aProc(pid))
	broken := aProc(pid)
	broken.M.S = 300
	return map[string]string{
		"a word to it":                      wordBytes(pid, "\x01\x01"),
		"a word to it of itself":            wordBytes(pid, s),
		"a word to it of its move":          wordBytes(pid, moveBytes(s)),
		"an empty word to it":               wordBytes(pid, ""),
		"its bytes":                         s,
		"nothing":                           "",
		"no payload":                        "no payload",
		"another kind":                      "\x03" + moveBytes(s)[1:],
		"its move, cut short":               moveBytes(s)[:len(moveBytes(s))-1],
		"its move, and more":                moveBytes(s) + "\x00",
		"its move, in a longer form":        "\x82\x00" + moveBytes(s)[1:],
		"the move of nothing":               moveBytes(""),
		"the move of its number":            moveBytes(numBytes(pid)),
		"the move of its bytes cut short":   moveBytes(s[:len(s)-1]),
		"the move of its bytes and more":    moveBytes(s + "\x00"),
		"the move of its move":              moveBytes(moveBytes(s)),
		"the move of what is not right":     moveBytes(joined(procPieces(pid, machineBytes(broken.M), nil, nil))),
		"the move of one without a machine": moveBytes(joined(procPieces(pid, "", nil, nil))),
		"the move of a value":               moveBytes("\x01\x01"),
		"the move of another one":           procMove(pid + 1),
	}
}

func TestWhereIsOfWhatDoesNotMoveIt(t *testing.T) {
	for _, pid := range []int{1, 2, 3, 4, 5, 127, 128, 300, lastPid - 1} {
		for why, s := range movesNobody(pid) {
			w := wayWorld(2, 2, 0, s)
			askWorldOk(t, why, w, true)
			askWhere(t, why, w, pid, -1)
			askWhere(t, why+", and pid nought", w, 0, -1)
			setWay(&w, 2, 1, "x", s, procMove(pid))
			askWhere(t, why+", and then it is moved", w, pid, 0)
			setWay(&w, 1, 0, procMove(pid))
			setWay(&w, 2, 0, s)
			askWhere(t, why+", behind the link that moves it", w, pid, 1)
		}
	}
}

// One that is moved is a process of the world's own code.
func TestWhereIsByTheWorldsCode(t *testing.T) {
	_, machines := machinesToAsk()
	done, runs := impl.Proc{Pid: 5, M: impl.Tidy(machines[2])}, impl.Proc{Pid: 6, M: impl.Tidy(machines[1])}
	w := wayWorld(2, 1, 0, moveBytes(procBytes(done)), moveBytes(procBytes(runs)))
	w.Homes = homesOf(1, 7)
	askWhere(t, "its code", w, 5, 1)
	askWhere(t, "its code", w, 6, 1)
	w.Code = impl.Code{}
	askWhere(t, "a code without places, and one that is done", w, 5, 1)
	askWhere(t, "a code without places, and one that runs", w, 6, -1)
	for why, c := range brokenCodes() {
		w.Code = c
		askWhere(t, why, w, 5, -1)
		askWhere(t, why, w, 6, -1)
		askWhere(t, why+", and a home", w, 7, 1)
	}
}

// Each tells something of worlds that are not right: what the words of the chapter come to there.
func TestWhereIsOfWorldsThatAreNotRight(t *testing.T) {
	askWhere(t, "nothing", impl.World{}, 0, -1)
	askWhere(t, "nothing", impl.World{}, 1, -1)
	moved := func(turn func(w *impl.World)) impl.World {
		w := wayWorld(2, 1, 0, procMove(5))
		setWay(&w, 2, 1, "x", procMove(6))
		w.Homes = homesOf(1, 7)
		turn(&w)
		return w
	}
	for _, x := range []struct {
		why  string
		five int
		six  int
		turn func(w *impl.World)
	}{
		{"as it is", 1, 0, func(w *impl.World) {}},
		{"no places", -1, -1, func(w *impl.World) { w.Places = 0 }},
		{"places below 0", -1, -1, func(w *impl.World) { w.Places = -1 }},
		{"places far below 0", -1, -1, func(w *impl.World) { w.Places = math.MinInt }},
		{"places that wrap round", -1, -1, func(w *impl.World) { w.Places = -1 << 32 }},
		{"one place", 0, 0, func(w *impl.World) { w.Places = 1 }},
		{"three places", 1, 2, func(w *impl.World) { w.Places = 3 }},
		{"too many places", 1, 2, func(w *impl.World) { w.Places = 4 }},
		{"far too many places", 1, 2, func(w *impl.World) { w.Places = 1 << 32 }},
		{"as many places as an int tells", 1, 2, func(w *impl.World) { w.Places = math.MaxInt }},
		{"no links", -1, -1, func(w *impl.World) { w.Links = nil }},
		{"one link", -1, -1, func(w *impl.World) { w.Links = w.Links[:1] }},
		{"two links", 1, -1, func(w *impl.World) { w.Links = w.Links[:2] }},
		{"one link too many", 1, 0, func(w *impl.World) { w.Links = append(w.Links, impl.Link{}) }},
		{"nothing given", -1, -1, func(w *impl.World) { w.Gave = nil }},
		{"given on one link", -1, -1, func(w *impl.World) { w.Gave = w.Gave[:1] }},
		{"given on two links", 1, -1, func(w *impl.World) { w.Gave = w.Gave[:2] }},
		{"given on three links", 1, 0, func(w *impl.World) { w.Gave = w.Gave[:3] }},
		{"nothing taken", 1, 0, func(w *impl.World) { w.Took = nil }},
		{"many links, nothing given", -1, -1, func(w *impl.World) { w.Links, w.Gave, w.Places = make([]impl.Link, 50), nil, math.MaxInt }},
		{"Got below 0", 1, 0, func(w *impl.World) { w.Links[1].Got, w.Links[2].Got = -1, -1 }},
		{"Got far below 0", 1, 0, func(w *impl.World) { w.Links[1].Got, w.Links[2].Got = math.MinInt, math.MinInt }},
		{"Got just all", -1, -1, func(w *impl.World) { w.Links[1].Got, w.Links[2].Got = 1, 2 }},
		{"Got beyond all", -1, -1, func(w *impl.World) { w.Links[1].Got, w.Links[2].Got = 2, 3 }},
		{"Got far beyond all", -1, -1, func(w *impl.World) { w.Links[1].Got, w.Links[2].Got = math.MaxInt, math.MaxInt }},
		{"links that are not right", 1, 0, func(w *impl.World) {
			w.Links[1], w.Links[2] = impl.Link{Sent: -1, Acked: 9}, impl.Link{Got: 1, Acked: 2}
		}},
		{"more given than sent", 1, 0, func(w *impl.World) { w.Gave[1], w.Links[2].Sent = append(payloads(0, 9), w.Gave[1]...), 0 }},
		{"no next", 1, 0, func(w *impl.World) { w.Next = 0 }},
	} {
		w := moved(x.turn)
		askWhere(t, x.why, w, 5, x.five)
		askWhere(t, x.why, w, 6, x.six)
		askWhere(t, x.why+", a home", w, 7, 1)
		askWhere(t, x.why+", nobody", w, 8, -1)
		askWhere(t, x.why+", by the rules", w, 5, whereByRules(w, 5))
		askWhere(t, x.why+", by the rules", w, 6, whereByRules(w, 6))
	}
	for _, at := range []int{-1, -5, 2, 3, math.MaxInt, math.MinInt} {
		askWhere(t, "a home at no place", moved(func(w *impl.World) { w.Homes[0].At = at }), 7, at)
	}
	for _, pid := range []int{0, -1, lastPid + 1, math.MinInt, math.MaxInt} {
		askWhere(t, "a home of no pid", moved(func(w *impl.World) { w.Homes[0].P.Pid = pid }), pid, 1)
		askWhere(t, "no pid on its way", moved(func(w *impl.World) { w.Gave[1][0] = procMove(pid) }), pid, -1)
	}
}

// A link beyond Places times Places goes somewhere, too: its number is a times Places and b, and b is where, whatever a is.
func TestWhereIsOnLinksBeyondThePlaces(t *testing.T) {
	asked := 0
	for places := 1; places <= 12; places++ {
		for number := range 40 {
			w := withWays(bareWorld(1), number+1)
			w.Places = places
			setWay(&w, number, 1, procMove(5), "x", procMove(6))
			to := number
			for to >= places {
				to -= places
			}
			why := fmt.Sprint("link ", number, " with ", places, " places")
			askWhere(t, why, w, 6, to)
			askWhere(t, why+", handed up", w, 5, -1)
			askWhere(t, why+", another one", w, 7, -1)
			// A link ahead of it comes first, one behind it does not.
			w.Links, w.Gave = append(w.Links, impl.Link{}), append(w.Gave, words(procMove(6), procMove(8)))
			askWhere(t, why+", and one behind it", w, 6, to)
			askWhere(t, why+", one behind it", w, 8, (to+1)%places)
			setWay(&w, 0, 0, procMove(6))
			if number > 0 {
				askWhere(t, why+", and one ahead of it", w, 6, 0)
			}
			w.Homes = homesOf(places+3, 6)
			askWhere(t, why+", and a home", w, 6, places+3)
			asked++
		}
	}
	if asked != 480 {
		t.Error("so many were asked", asked)
	}
	for _, places := range []int{0, -1, -2, -3, -40, math.MinInt} {
		for number := range 10 {
			w := withWays(bareWorld(1), 10)
			w.Places = places
			setWay(&w, number, 0, procMove(5))
			askWhere(t, fmt.Sprint("link ", number, " with ", places, " places"), w, 5, -1)
		}
	}
}

// Of each turned world all are asked for: they answer, and by the rules.
func TestWhereIsOfTurnedWorlds(t *testing.T) {
	t.Parallel()
	eachTurned(func(why string, w impl.World, _ bool) {
		for _, pid := range []int{0, 3, 5} {
			askHome(t, why, w, pid, homeByRules(w, pid))
			askWhere(t, why, w, pid, whereByRules(w, pid))
		}
	})
}

// someRest: something else that may have been handed in, which moves nobody.
func (r *aRandom) someRest() string {
	pid := 1 + r.below(9)
	switch r.below(4) {
	case 0:
		return wordBytes(pid, mail(3)[r.below(3)])
	case 1:
		return procBytes(aProc(pid))
	case 2:
		return moveBytes(procBytes(aProc(pid)) + "\x00")
	}
	return payload(r.below(9))
}

// A placed world is one of which is known where each process is.
type placedWorld struct {
	w     impl.World
	where map[int]int
	ways  int
}

// somePlaced: a world in which each pid up to 9 has a home, is on its way, or was handed up and is nowhere.
func (r *aRandom) somePlaced() placedWorld {
	places := 1 + r.below(mostPlaces)
	x := placedWorld{w: bareWorld(places), where: map[int]int{}}
	before, behind := make([][]string, places*places), make([][]string, places*places)
	for pid := 1; pid <= 9; pid++ {
		x.where[pid] = -1
		number := r.below(places * places)
		switch r.below(4) {
		case 0:
			if at := r.below(places); len(x.w.Homes) < mostProcs {
				x.w.Homes = append(x.w.Homes, impl.Home{At: at, P: aProc(pid)})
				x.where[pid] = at
			}
		case 1, 2:
			behind[number] = append(behind[number], procMove(pid))
			x.where[pid] = number % places
			x.ways++
		case 3:
			before[number] = append(before[number], procMove(pid))
		}
		other := r.below(places * places)
		before[other] = append(before[other], r.someRest())
		behind[other] = append(behind[other], r.someRest())
	}
	for number := range before {
		setWay(&x.w, number, len(before[number]), slices.Concat(before[number], behind[number])...)
	}
	return x
}

// Promise 13: a process is where its home is, or where it is on its way to.
func TestProcsAreWhereTheirHomesAre(t *testing.T) {
	r := &aRandom{x: 1302}
	homes, ways, nowhere := 0, 0, 0
	for range 1500 {
		x := r.somePlaced()
		askWorldOk(t, "placed", x.w, true)
		for pid, want := range x.where {
			askWhere(t, "placed", x.w, pid, want)
			if want < 0 {
				nowhere++
			}
		}
		for i, h := range x.w.Homes {
			askHome(t, "placed", x.w, h.P.Pid, i)
			askWhere(t, "placed", x.w, h.P.Pid, h.At)
			homes++
		}
		ways += x.ways
		for _, pid := range []int{-1, 0, 10, lastPid} {
			askHome(t, "placed", x.w, pid, -1)
			askWhere(t, "placed", x.w, pid, -1)
		}
		if t.Failed() {
			return
		}
	}
	if homes < 2000 || ways < 2000 || nowhere < 2000 {
		t.Error("so many were at home, on their way, and nowhere", homes, ways, nowhere)
	}
}

// A process that goes about: it is where it was until it goes, then where it is on its way to, and there when it comes.
func TestAProcessGoesAbout(t *testing.T) {
	c := programOf(t, "(define (tour l) (if (null? l) 0 (do (print (car l)) (go (car l)) (tour (cdr l))))) (tour (quote (1 2 0 2 1 0 1)))")
	w, _ := impl.WorldNew(c, 3)
	at, moves := 0, 0
	for {
		askWhere(t, "at home", w, 1, at)
		p, act := impl.ProcStep(c, w.Homes[0].P, 3)
		w.Homes[0].P = p
		if act.Kind == impl.AcEnd {
			break
		}
		if act.Kind != impl.AcGo {
			continue
		}
		moves++
		number := 3*at + act.To
		text, _ := impl.ProcPack(c, p)
		w.Homes = nil
		askWhere(t, "gone, and not on its way", w, 1, -1)
		w.Links[number], _ = impl.LinkSend(w.Links[number], impl.MailMove(text))
		w.Gave[number] = append(w.Gave[number], impl.MailMove(text))
		askWorldOk(t, "on its way", w, true)
		askHome(t, "on its way", w, 1, -1)
		askWhere(t, "on its way", w, 1, act.To)
		link, up := impl.LinkTake(w.Links[number], impl.LinkShow(w.Links[number])[0])
		link, _ = impl.LinkAck(link, link.Got)
		w.Links[number], w.Took[number] = link, append(w.Took[number], up...)
		askWorldOk(t, "handed up", w, true)
		askWhere(t, "handed up, and not at home", w, 1, -1)
		_, _, came, _ := impl.MailRead(up[0])
		p, ok := impl.ProcRead(c, came)
		if !ok {
			t.Fatal("it is not read")
		}
		at = act.To
		w.Homes = []impl.Home{{At: at, P: p}}
		askWorldOk(t, "at home again", w, true)
	}
	if out := w.Homes[0].P.Out; moves != 7 || at != 1 || !slices.Equal(out, words("1", "2", "0", "2", "1", "0", "1")) {
		t.Error("it went and told", moves, at, out)
	}
}

// breakWorld turns one thing of a world, so that it may be right no more.
func (r *aRandom) breakWorld(w *impl.World) {
	number := r.below(len(w.Links))
	some := []int{-1, 0, 1, 2, 3, 4, lastPid, lastPid + 1, lastNo + 1, math.MaxInt, math.MinInt}[r.below(11)]
	switch r.below(12) {
	case 0:
		w.Places = some
	case 1:
		w.Next = some
	case 2:
		w.Links[number].Got = some
	case 3:
		w.Links[number].Sent = some
	case 4:
		w.Gave[number] = append(slices.Clone(w.Gave[number]), procMove(1+r.below(9)))
	case 5:
		w.Took[number] = append(slices.Clone(w.Took[number]), "x")
	case 6:
		w.Links = w.Links[:number]
	case 7:
		w.Gave = w.Gave[:number]
	case 8:
		w.Took = w.Took[:number]
	case 9:
		w.Homes = append(slices.Clone(w.Homes), impl.Home{At: some, P: aProc(1 + r.below(9))})
	case 10:
		w.Grams = append(slices.Clone(w.Grams), impl.Gram{Kind: r.below(4), From: r.below(3), To: r.below(3), P: impl.Piece{No: max(some, -1), Text: []string{"", "x"}[r.below(2)]}})
	case 11:
		w.Parked = append(slices.Clone(w.Parked), impl.Parked{At: some})
	}
}

func TestAnyWorldsByRules(t *testing.T) {
	t.Parallel()
	r := &aRandom{x: 1303}
	right, broken, found := 0, 0, 0
	for range 2000 {
		w := r.somePlaced().w
		// Some of what is there is there twice, on another way or at home.
		for range r.below(3) {
			setWay(&w, r.below(len(w.Links)), 0, r.someRest(), procMove(1+r.below(9)), r.someRest(), procMove(1+r.below(9)))
		}
		if len(w.Homes) < mostProcs && r.below(3) == 0 {
			w.Homes = append(w.Homes, impl.Home{At: r.below(w.Places), P: aProc(1 + r.below(9))})
		}
		for range r.below(3) {
			r.breakWorld(&w)
			if len(w.Links) == 0 || len(w.Gave) < len(w.Links) || len(w.Took) < len(w.Links) {
				break
			}
		}
		want := worldByRules(w)
		askWorldOk(t, "any", w, want)
		if want {
			right++
		} else {
			broken++
		}
		for pid := range 11 {
			at := whereByRules(w, pid)
			askHome(t, "any", w, pid, homeByRules(w, pid))
			askWhere(t, "any", w, pid, at)
			if at >= 0 {
				found++
			}
		}
		if t.Failed() {
			return
		}
	}
	if right < 600 || broken < 600 || found < 5000 {
		t.Error("so many were right, were not, and were found", right, broken, found)
	}
}

// A span is the memory of one list, with its spare room.
type span struct {
	name string
	from uintptr
	end  uintptr
}

// spansOf: the memory of all lists of a value, in whatever they lie.
func spansOf(name string, v reflect.Value) []span {
	var list []span
	switch v.Kind() {
	case reflect.Slice:
		whole := v.Slice(0, v.Cap())
		if size := uintptr(v.Cap()) * v.Type().Elem().Size(); size > 0 {
			list = append(list, span{name, whole.Pointer(), whole.Pointer() + size})
		}
		for i := 0; i < v.Len() && hasLists(v.Type().Elem()); i++ {
			list = append(list, spansOf(fmt.Sprint(name, "[", i, "]"), v.Index(i))...)
		}
	case reflect.Struct:
		for i := range v.NumField() {
			list = append(list, spansOf(name+"."+v.Type().Field(i).Name, v.Field(i))...)
		}
	}
	return list
}

// hasLists: a value of that type may have lists in it.
func hasLists(kind reflect.Type) bool {
	if kind.Kind() != reflect.Struct {
		return kind.Kind() == reflect.Slice
	}
	for i := range kind.NumField() {
		if hasLists(kind.Field(i).Type) {
			return true
		}
	}
	return false
}

// shared: two of these that share memory.
func shared(list []span) []string {
	list = slices.Clone(list)
	slices.SortFunc(list, func(a span, b span) int { return int(int64(a.from) - int64(b.from)) })
	for i := 1; i < len(list); i++ {
		if list[i].from < list[i-1].end {
			return words(list[i-1].name, list[i].name)
		}
	}
	return nil
}

// tellMemory tells all that lies in the lists of a value, and in the spare room behind them.
func tellMemory(b *strings.Builder, v reflect.Value) {
	switch v.Kind() {
	case reflect.Slice:
		fmt.Fprint(b, "[", v.Len(), ":")
		whole := v.Slice(0, v.Cap())
		for i := range whole.Len() {
			tellMemory(b, whole.Index(i))
		}
		b.WriteString("]")
	case reflect.Struct:
		for i := range v.NumField() {
			tellMemory(b, v.Field(i))
		}
	default:
		fmt.Fprintf(b, "%q ", fmt.Sprint(v))
	}
}

func memoryTold(w impl.World) string {
	var b strings.Builder
	tellMemory(&b, reflect.ValueOf(w))
	return b.String()
}

// withSpare: the list with other things in the spare room behind it.
func withSpare[T any](list []T, spare ...T) []T {
	return append(slices.Clone(list), spare...)[:len(list)]
}

func roomyTextLists(list [][]string) [][]string {
	list = withSpare(list, words("spare"), nil, words("room"))
	for i := range list {
		list[i] = withSpare(list[i], "spare", "room", "behind")
	}
	return list
}

func roomyCode(c impl.Code) impl.Code {
	c.Pool, _ = roomy(c.Pool)
	c.List = withSpare(c.List, impl.Instr{Op: 3, S: "spare"}, impl.Instr{Op: 4})
	c.Defs = withSpare(c.Defs, impl.Def{Name: "spare"}, impl.Def{Name: "rest"})
	return c
}

// roomyWorld: the world with spare room behind all its lists.
func roomyWorld(w impl.World) impl.World {
	w.Homes = withSpare(w.Homes, homesOf(2, 71, 72)...)
	for i, h := range w.Homes {
		w.Homes[i].P = roomyProc(w.Code, h.P).p
	}
	w.Code = roomyCode(w.Code)
	w.Links = withSpare(w.Links, aLink(5, 1, 3), impl.Link{})
	for i, l := range w.Links {
		w.Links[i], _, _ = roomyLink(l)
	}
	w.Grams = withSpare(w.Grams, impl.Gram{Kind: 1}, impl.Gram{Kind: 2})
	w.Parked = withSpare(w.Parked, impl.Parked{At: 1}, impl.Parked{To: 4})
	w.Gave, w.Took = roomyTextLists(w.Gave), roomyTextLists(w.Took)
	return w
}

func askNothingWritten(t *testing.T, why string, w impl.World) {
	t.Helper()
	w = roomyWorld(w)
	before := memoryTold(w)
	for _, pid := range []int{0, 1, 5} {
		impl.HomeOf(w, pid)
		impl.WhereIs(w, pid)
	}
	impl.WorldOk(w)
	for _, places := range []int{0, 1, 2, 3, 4} {
		impl.WorldNew(w.Code, places)
	}
	if memoryTold(w) != before {
		t.Errorf("%s: an argument was written into, or the room behind it", why)
	}
}

func TestNothingIsWrittenByWorlds(t *testing.T) {
	for why, w := range rightWorlds() {
		askNothingWritten(t, why, w)
	}
	r := &aRandom{x: 1304}
	for range 60 {
		w := r.somePlaced().w
		askNothingWritten(t, "placed", w)
		r.breakWorld(&w)
		askNothingWritten(t, "broken", w)
	}
	for why, c := range brokenCodes() {
		w := busyWorld(2)
		w.Code = c
		askNothingWritten(t, why, w)
	}
	askNothingWritten(t, "zero", impl.World{})
}

// A new world shares no memory with the code that is handed in, nor do two lists of it, nor two new worlds.
func TestNewWorldsAreNewMemory(t *testing.T) {
	for _, x := range talkers() {
		for places := 1; places <= mostPlaces; places++ {
			c := roomyCode(programOf(t, x.text))
			w, ok := impl.WorldNew(c, places)
			other, _ := impl.WorldNew(c, places)
			if !ok {
				t.Fatal("there is no world", x.text)
			}
			all := slices.Concat(spansOf("code", reflect.ValueOf(c)), spansOf("world", reflect.ValueOf(w)), spansOf("other", reflect.ValueOf(other)))
			if two := shared(all); two != nil {
				t.Errorf("%s: %q share memory", x.text, two)
			}
			kept := cloneWorld(other)
			spoilProc(w.Homes[0].P)
			spoilCode(w.Code)
			if third, _ := impl.WorldNew(c, places); !sameWorld(third, kept) {
				t.Errorf("%s: something is kept from call to call, or shared with the code", x.text)
			}
			spoilCode(c)
			if !sameWorld(other, kept) {
				t.Errorf("%s: the world shares memory with its code", x.text)
			}
		}
	}
}

// The lists of a new world are each its own: what is put into one stands in no other.
func TestNewWorldsListsAreTheirOwn(t *testing.T) {
	c, _ := machinesToAsk()
	for places := 1; places <= mostPlaces; places++ {
		w, _ := impl.WorldNew(c, places)
		for number := range places * places {
			w.Gave[number] = append(w.Gave[number], fmt.Sprint("gave ", number))
			w.Took[number] = append(w.Took[number], fmt.Sprint("took ", number))
			w.Links[number].Queue = append(w.Links[number].Queue, fmt.Sprint("queue ", number))
			w.Links[number].Held = append(w.Links[number].Held, impl.Piece{No: number})
		}
		for number := range places * places {
			if w.Gave[number][0] != fmt.Sprint("gave ", number) || w.Took[number][0] != fmt.Sprint("took ", number) || w.Links[number].Queue[0] != fmt.Sprint("queue ", number) || w.Links[number].Held[0].No != number {
				t.Error("lists share memory", places, number, w)
			}
		}
	}
}
