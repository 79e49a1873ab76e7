package impl

// Nine bytes of seven bits hold the 63 bits of the greatest int: a longer form is none of a number.
const (
	numBase  = 128
	numBytes = 9
)

// A numForm has room for the longest form; count tells how much of it is a number's.
type numForm struct {
	bytes [numBytes]byte
	count int
}

// A reader points to its place, so that what is read next begins where this reading ended.
type reader struct {
	bytes []byte
	place *int
}

func PutNum(x int) []byte {
	if x < 0 {
		return []byte{}
	}
	f := formOf(x)
	return append([]byte{}, f.bytes[:f.count]...)
}

func GetNum(b []byte, at int) (int, int, bool) {
	r := reader{bytes: b, place: &at}
	x, ok := r.num()
	if !ok {
		return 0, 0, false
	}
	return x, at, true
}

func PutText(s string) []byte {
	return append(PutNum(len(s)), s...)
}

func GetText(b []byte, at int) (string, int, bool) {
	r := reader{bytes: b, place: &at}
	s, ok := r.text()
	if !ok {
		return "", 0, false
	}
	return s, at, true
}

func formOf(x int) numForm {
	var f numForm
	for x >= numBase {
		f.add(byte(x%numBase + numBase))
		x /= numBase
	}
	f.add(byte(x))
	return f
}

func (f *numForm) add(b byte) {
	f.bytes[f.count] = b
	f.count++
}

func (f *numForm) number() (int, bool) {
	last := f.count - 1
	// A nought on top says nothing: without it the form would be shorter.
	if last > 0 && f.bytes[last] == 0 {
		return 0, false
	}
	x := 0
	for i := last; i >= 0; i-- {
		x = x*numBase + int(f.bytes[i]%numBase)
	}
	return x, true
}

func (r reader) next() (byte, bool) {
	at := *r.place
	if at < 0 || at >= len(r.bytes) {
		return 0, false
	}
	*r.place = at + 1
	return r.bytes[at], true
}

func (r reader) num() (int, bool) {
	var f numForm
	for f.count < numBytes {
		b, ok := r.next()
		if !ok {
			return 0, false
		}
		f.add(b)
		if b < numBase {
			return f.number()
		}
	}
	return 0, false
}

func (r reader) text() (string, bool) {
	n, ok := r.num()
	from := *r.place
	// The place and n are not added up ahead of this: n may be the greatest int.
	if !ok || n > len(r.bytes)-from {
		return "", false
	}
	*r.place = from + n
	return string(r.bytes[from : from+n]), true
}
