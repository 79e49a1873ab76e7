package tests

import (
	"bytes"
	"encoding/binary"
	"math"
	"strings"
	"testing"

	"loop.example/g00189/impl"
)

// edgeNums: 0, and of each length of form the numbers about its end; the greatest int is the last of nine bytes.
func edgeNums() []int {
	list := []int{0, 1, 2, 126, 300}
	for bits := 7; bits < 63; bits += 7 {
		first := 1 << bits
		list = append(list, first-2, first-1, first, first+1)
	}
	return append(list, math.MaxInt-1, math.MaxInt)
}

func edgeTexts() []string {
	every := make([]byte, 256)
	for i := range every {
		every[i] = byte(i)
	}
	return []string{
		"", "a", "ab", "\x00", "\x80", "\xff\xfe\x00\n", "é", "\x02ab", string(every),
		strings.Repeat("x", 126), strings.Repeat("x", 127), strings.Repeat("x", 128), strings.Repeat("\xff", 128),
		strings.Repeat("y", 16383), strings.Repeat("y", 16384),
	}
}

// surrounds: what may stand ahead of a form and behind it.
func surrounds() []string {
	return []string{"", "\x00", "\x01", "\x7f", "\x80", "\xff", "\x80\x00", strings.Repeat("\xff", 20), "text"}
}

// withRoom: the bytes in a slice that has spare room behind it, and the whole of its memory.
func withRoom(s string, room string) ([]byte, []byte) {
	whole := []byte(s + room)
	return whole[:len(s)], whole
}

func noNum(t *testing.T, why string, b []byte, at int) {
	t.Helper()
	if x, next, ok := impl.GetNum(b, at); x != 0 || next != 0 || ok {
		t.Errorf("GetNum, %s: %x at %d tells %d, %d, %v; asked: 0, 0, false", why, b, at, x, next, ok)
	}
}

func noText(t *testing.T, why string, b []byte, at int) {
	t.Helper()
	if s, next, ok := impl.GetText(b, at); s != "" || next != 0 || ok {
		t.Errorf("GetText, %s: %x at %d tells %q, %d, %v; asked: nothing, 0, false", why, b, at, s, next, ok)
	}
}

func TestPutNumForm(t *testing.T) {
	for _, c := range []struct {
		x    int
		form string
	}{
		{0, "\x00"}, {1, "\x01"}, {127, "\x7f"}, {128, "\x80\x01"}, {129, "\x81\x01"}, {300, "\xac\x02"},
		{16383, "\xff\x7f"}, {16384, "\x80\x80\x01"}, {1 << 56, "\x80\x80\x80\x80\x80\x80\x80\x80\x01"},
		{math.MaxInt, "\xff\xff\xff\xff\xff\xff\xff\xff\x7f"},
	} {
		if b := impl.PutNum(c.x); string(b) != c.form {
			t.Errorf("PutNum(%d) is %x, not %x", c.x, b, c.form)
		}
	}
	for _, x := range edgeNums() {
		if b := impl.PutNum(x); !bytes.Equal(b, binary.AppendUvarint(nil, uint64(x))) {
			t.Errorf("PutNum(%d) is %x", x, b)
		}
	}
}

func TestPutNumLengths(t *testing.T) {
	for n := 1; n <= 9; n++ {
		last := math.MaxInt >> (63 - 7*n)
		if b := impl.PutNum(last); len(b) != n {
			t.Errorf("the last number of %d bytes has %d", n, len(b))
		}
		if n == 9 {
			break
		}
		if b := impl.PutNum(last + 1); len(b) != n+1 {
			t.Errorf("the number behind the last of %d bytes has %d", n, len(b))
		}
	}
}

func TestPutNumBelowNought(t *testing.T) {
	for _, x := range []int{-1, -2, -127, -128, -129, math.MinInt32, -1 << 56, math.MinInt + 1, math.MinInt} {
		if b := impl.PutNum(x); len(b) != 0 {
			t.Errorf("PutNum(%d) is %x, not nothing", x, b)
		}
	}
}

func TestNumIsGotAsPut(t *testing.T) {
	for _, x := range edgeNums() {
		form := string(impl.PutNum(x))
		for _, ahead := range surrounds() {
			for _, behind := range surrounds() {
				b := []byte(ahead + form + behind)
				got, next, ok := impl.GetNum(b, len(ahead))
				if got != x || next != len(ahead)+len(form) || !ok {
					t.Errorf("%d in %x at %d is got as %d, %d, %v", x, b, len(ahead), got, next, ok)
				}
			}
		}
	}
}

func TestManyNumsAreGotAsPut(t *testing.T) {
	var all []byte
	var list []int
	for x := 0; x < 40000; x++ {
		list = append(list, x)
	}
	for x, step := 1, 0; step < 5000; step++ {
		x = (x*6364136223846793005 + 1442695040888963407) & math.MaxInt
		list = append(list, x>>(step%63))
	}
	for _, x := range list {
		all = append(all, impl.PutNum(x)...)
	}
	at := 0
	for _, x := range list {
		got, next, ok := impl.GetNum(all, at)
		if got != x || next != at+len(impl.PutNum(x)) || !ok {
			t.Fatalf("%d at %d is got as %d, %d, %v", x, at, got, next, ok)
		}
		at = next
	}
	noNum(t, "behind all of them", all, at)
}

func TestGetNumNoPlace(t *testing.T) {
	for _, b := range [][]byte{nil, {}, {5}, {5, 6, 7}, {0x80, 1}} {
		for _, at := range []int{-1, -2, math.MinInt, len(b), len(b) + 1, len(b) + 9, math.MaxInt} {
			noNum(t, "no place", b, at)
		}
	}
}

func TestGetNumEndsFirst(t *testing.T) {
	for _, x := range edgeNums() {
		form := string(impl.PutNum(x))
		for n := 0; n < len(form); n++ {
			noNum(t, "the bytes end first", []byte(form[:n]), 0)
			noNum(t, "the bytes end first", []byte("\x07"+form[:n]), 1)
			// What stands in the spare room is none of the bytes.
			b, _ := withRoom(form[:n], form[n:])
			noNum(t, "the rest is spare room", b, 0)
		}
	}
}

func TestGetNumTooLong(t *testing.T) {
	for _, full := range []string{"\x80", "\x81", "\xff"} {
		for n := 9; n <= 12; n++ {
			for _, last := range []string{"", "\x00", "\x01", "\x7f"} {
				noNum(t, "more than nine bytes", []byte(strings.Repeat(full, n)+last), 0)
			}
		}
	}
}

func TestGetNumNotTheShortest(t *testing.T) {
	for _, ahead := range []string{"\x80", "\x81", "\xff"} {
		for n := 1; n <= 8; n++ {
			form := strings.Repeat(ahead, n)
			noNum(t, "not the shortest", []byte(form+"\x00"), 0)
			noNum(t, "not the shortest", []byte("\x01"+form+"\x00\x01"), 1)
			if x, next, ok := impl.GetNum([]byte(form+"\x01"), 0); x < 1<<(7*n) || next != n+1 || !ok {
				t.Errorf("%x and 1 is the shortest of its number: %d, %d, %v", form, x, next, ok)
			}
		}
	}
}

// wordsOver: every word of at most n of these bytes.
func wordsOver(alphabet string, n int) []string {
	all := []string{""}
	for from := 0; n > 0; n-- {
		upTo := len(all)
		for _, w := range all[from:upTo] {
			for i := range len(alphabet) {
				all = append(all, w+alphabet[i:i+1])
			}
		}
		from = upTo
	}
	return all
}

// numByLibrary tells by the library's own forms of seven bits a byte what GetNum must tell.
func numByLibrary(b []byte, at int) (int, int, bool) {
	if at < 0 || at >= len(b) {
		return 0, 0, false
	}
	x, n := binary.Uvarint(b[at:])
	if n <= 0 || n > 9 || len(binary.AppendUvarint(nil, x)) != n {
		return 0, 0, false
	}
	return int(x), at + n, true
}

func TestGetNumByAllShortWords(t *testing.T) {
	words := wordsOver("\x00\x01\x7f\x80\x81\xff", 5)
	for _, w := range words {
		for _, ahead := range []string{"", strings.Repeat("\x80", 6), strings.Repeat("\xff", 7)} {
			b := []byte(ahead + w)
			for at := -1; at <= len(b)+1; at++ {
				x, next, ok := impl.GetNum(b, at)
				if wx, wnext, wok := numByLibrary(b, at); x != wx || next != wnext || ok != wok {
					t.Fatalf("%x at %d tells %d, %d, %v; asked: %d, %d, %v", b, at, x, next, ok, wx, wnext, wok)
				}
			}
		}
	}
}

func TestEachNumHasOneForm(t *testing.T) {
	for _, w := range wordsOver("\x00\x01\x7f\x80\x81\xff", 5) {
		if x, next, ok := impl.GetNum([]byte(w), 0); ok && string(impl.PutNum(x)) != w[:next] {
			t.Errorf("%x is got as %d, whose form is %x", w[:next], x, impl.PutNum(x))
		}
	}
}

func TestPutTextForm(t *testing.T) {
	for _, s := range edgeTexts() {
		if b := impl.PutText(s); string(b) != string(impl.PutNum(len(s)))+s {
			t.Errorf("PutText of %d bytes has %d", len(s), len(b))
		}
	}
	if b := impl.PutText(""); string(b) != "\x00" {
		t.Errorf("the empty text is %x", b)
	}
	if b := impl.PutText("ab\xff"); string(b) != "\x03ab\xff" {
		t.Errorf("a text of three bytes is %x", b)
	}
	if b := impl.PutText(strings.Repeat("x", 128)); len(b) != 130 || b[0] != 0x80 || b[1] != 1 {
		t.Errorf("a text of 128 bytes is %x", b)
	}
}

func TestTextIsGotAsPut(t *testing.T) {
	for _, s := range edgeTexts() {
		form := string(impl.PutText(s))
		for _, ahead := range surrounds() {
			for _, behind := range surrounds() {
				got, next, ok := impl.GetText([]byte(ahead+form+behind), len(ahead))
				if got != s || next != len(ahead)+len(form) || !ok {
					t.Errorf("a text of %d bytes behind %x is got as %d bytes, %d, %v", len(s), ahead, len(got), next, ok)
				}
			}
		}
	}
}

func TestTextsFollowEachOther(t *testing.T) {
	var all []byte
	for _, s := range edgeTexts() {
		all = append(all, impl.PutText(s)...)
		all = append(all, impl.PutNum(len(all))...)
	}
	at := 0
	for _, s := range edgeTexts() {
		got, next, ok := impl.GetText(all, at)
		if got != s || next != at+len(impl.PutText(s)) || !ok {
			t.Fatalf("a text of %d bytes at %d is got as %d bytes, %d, %v", len(s), at, len(got), next, ok)
		}
		x, behind, ok := impl.GetNum(all, next)
		if x != next || !ok {
			t.Fatalf("the number at %d is got as %d, %v", next, x, ok)
		}
		at = behind
	}
	noText(t, "behind all of them", all, at)
}

func TestGetTextNoNumber(t *testing.T) {
	for _, at := range []int{-1, -2, math.MinInt, 3, 4, math.MaxInt} {
		noText(t, "no place", []byte("\x02ab"), at)
	}
	noText(t, "no bytes", nil, 0)
	noText(t, "no bytes", []byte{}, 0)
	noText(t, "the number ends first", []byte("\x80"), 0)
	noText(t, "the number ends first", []byte("ab\xff"), 2)
	noText(t, "not the shortest", []byte("\x80\x00"), 0)
	noText(t, "not the shortest", []byte("\x82\x00abc"), 0)
	noText(t, "more than nine bytes", []byte("\x81\x80\x80\x80\x80\x80\x80\x80\x80\x00abc"), 0)
}

func TestGetTextEndsFirst(t *testing.T) {
	for _, s := range edgeTexts() {
		form := string(impl.PutText(s))
		for n := 0; n < len(form); n += 1 + len(form)/300 {
			noText(t, "the text ends first", []byte(form[:n]), 0)
		}
		noText(t, "one byte is missing", []byte(form[:len(form)-1]), 0)
		b, _ := withRoom("\x01"+form[:len(form)-1], form[len(form)-1:])
		noText(t, "the last byte is spare room", b, 1)
	}
}

func TestGetTextOfHugeLength(t *testing.T) {
	for _, n := range []int{math.MaxInt, math.MaxInt - 1, math.MaxInt - 8, math.MaxInt - 9, math.MaxInt - 10, 1 << 56, 1 << 32, 1 << 31} {
		for _, ahead := range surrounds() {
			b := []byte(ahead + string(impl.PutNum(n)) + "abc")
			noText(t, "the text ends first", b, len(ahead))
		}
	}
}

func TestNothingIsWrittenIntoBytes(t *testing.T) {
	var forms []string
	for _, x := range edgeNums() {
		forms = append(forms, string(impl.PutNum(x)))
	}
	for _, s := range edgeTexts() {
		forms = append(forms, string(impl.PutText(s)))
	}
	forms = append(forms, "", "\x80", "\x80\x00", "\x05ab", strings.Repeat("\xff", 12))
	for _, form := range forms {
		b, whole := withRoom(form, "spare room")
		before := string(whole)
		for _, at := range []int{-1, 0, 1, len(b) - 1, len(b), len(b) + 1} {
			impl.GetNum(b, at)
			impl.GetText(b, at)
		}
		if string(whole) != before {
			t.Errorf("%x is %x afterwards", before, whole)
		}
	}
}

func TestTextsShareNoMemoryWithBytes(t *testing.T) {
	for _, s := range edgeTexts() {
		b := impl.PutText(s)
		got, _, _ := impl.GetText(b, 0)
		for i := range b {
			b[i] ^= 0xff
		}
		if got != s {
			t.Errorf("a text of %d bytes changes with the bytes it was got from", len(s))
		}
	}
}

// spoil turns all of a list round, and the spare room behind it.
func spoil(b []byte) {
	b = b[:cap(b)]
	for i := range b {
		b[i] ^= 0xff
	}
}

func TestAnswersAreNewMemory(t *testing.T) {
	for _, x := range append(edgeNums(), -1, math.MinInt) {
		first, second := impl.PutNum(x), impl.PutNum(x)
		before := string(second)
		spoil(first)
		if string(second) != before || string(impl.PutNum(x)) != before {
			t.Errorf("two answers of PutNum(%d) share memory", x)
		}
	}
	for _, s := range edgeTexts() {
		text := string([]byte(s))
		first, second := impl.PutText(text), impl.PutText(text)
		before := string(second)
		spoil(first)
		if text != s || string(second) != before || string(impl.PutText(text)) != before {
			t.Errorf("an answer of PutText of %d bytes shares memory", len(s))
		}
	}
}
