package wire_test

import (
	"math"
	"math/rand"
	"strings"
	"testing"

	"confluence/api"
	"confluence/wire"
)

// written returns what a new Writer holds after do.
func written(do func(w *wire.Writer)) string {
	w := wire.NewWriter()
	do(w)
	return string(w.Done())
}

// ends checks how a Reader stands.
func ends(t *testing.T, r *wire.Reader, why api.Errno, at, left int) {
	t.Helper()
	if n := r.Left(); n != left {
		t.Errorf("%d left, not %d", n, left)
	}
	if w, a := r.End(); w != why || a != at {
		t.Errorf("ends with %d at %d, not with %d at %d", w, a, why, at)
	}
}

func TestP11Writes(t *testing.T) {
	for _, c := range []struct {
		name string
		do   func(w *wire.Writer)
		want string
	}{
		{"nothing", func(w *wire.Writer) {}, ""},
		{"Byte(0)", func(w *wire.Writer) { w.Byte(0) }, "\x00"},
		{"Byte(255)", func(w *wire.Writer) { w.Byte(255) }, "\xff"},
		{"Byte(256)", func(w *wire.Writer) { w.Byte(256) }, "\x00"},
		{"Byte(-1)", func(w *wire.Writer) { w.Byte(-1) }, "\xff"},
		{"Byte of the least int", func(w *wire.Writer) { w.Byte(math.MinInt) }, "\x00"},
		{"Short(258)", func(w *wire.Writer) { w.Short(258) }, "\x02\x01"},
		{"Short(65535)", func(w *wire.Writer) { w.Short(65535) }, "\xff\xff"},
		{"Short(65536)", func(w *wire.Writer) { w.Short(65536 + 7) }, "\x07\x00"},
		{"Short(-2)", func(w *wire.Writer) { w.Short(-2) }, "\xfe\xff"},
		{"Long(0)", func(w *wire.Writer) { w.Long(0) }, "\x00\x00\x00\x00\x00\x00\x00\x00"},
		{"Long, each byte", func(w *wire.Writer) { w.Long(0x0102030405060708) }, "\x08\x07\x06\x05\x04\x03\x02\x01"},
		{"Long(-1)", func(w *wire.Writer) { w.Long(-1) }, "\xff\xff\xff\xff\xff\xff\xff\xff"},
		{"least Long", func(w *wire.Writer) { w.Long(math.MinInt64) }, "\x00\x00\x00\x00\x00\x00\x00\x80"},
		{"greatest Long", func(w *wire.Writer) { w.Long(math.MaxInt64) }, "\xff\xff\xff\xff\xff\xff\xff\x7f"},
		{"Text()", func(w *wire.Writer) { w.Text("") }, "\x00\x00"},
		{"Text(ab)", func(w *wire.Writer) { w.Text("ab") }, "\x02\x00ab"},
		{"Text of bytes that are no runes", func(w *wire.Writer) { w.Text("\xff\x00\xc3") }, "\x03\x00\xff\x00\xc3"},
		{"one behind the other", func(w *wire.Writer) { w.Byte(1); w.Short(2); w.Text("c"); w.Byte(4) }, "\x01\x02\x00\x01\x00c\x04"},
	} {
		if s := written(c.do); s != c.want {
			t.Errorf("%s: %x, not %x", c.name, s, c.want)
		}
	}
}

func TestP11WritesLongTexts(t *testing.T) {
	for n, head := range map[int]string{255: "\xff\x00", 256: "\x00\x01", 65535: "\xff\xff", 65536: "\x00\x00", 65537: "\x01\x00", 200000: "\x40\x0d"} {
		text := strings.Repeat("t", n)
		if s := written(func(w *wire.Writer) { w.Text(text) }); s != head+text {
			t.Errorf("a text of %d bytes: %d bytes, the first %x", n, len(s), s[:2])
		}
	}
}

func TestP11DoneGoesOn(t *testing.T) {
	w := wire.NewWriter()
	w.Byte('a')
	first := w.Done()
	w.Byte('b')
	second := w.Done()
	if string(first) != "a" || string(second) != "ab" {
		t.Errorf("%q, then %q", first, second)
	}
}

func TestP11DoneIsNewMemory(t *testing.T) {
	w := wire.NewWriter()
	w.Text("ab")
	first, second := w.Done(), w.Done()
	for i := range first {
		first[i] = 'z'
	}
	_ = append(first, "xyz"...)
	w.Byte('c')
	if string(second) != "\x02\x00ab" || string(w.Done()) != "\x02\x00abc" {
		t.Errorf("%x, %x: the memory of one Done is that of another or of the Writer", second, w.Done())
	}
}

func TestP12ReadsNumbers(t *testing.T) {
	r := wire.NewReader([]byte("\xff\x00\x02\x01\xff\xff\x08\x07\x06\x05\x04\x03\x02\x01\xfe\xff\xff\xff\xff\xff\xff\xff\x00\x00\x00\x00\x00\x00\x00\x80"))
	ends(t, r, api.ErrTail, 0, 30)
	if a, b := r.Byte(), r.Byte(); a != 255 || b != 0 {
		t.Errorf("Byte: %d, %d", a, b)
	}
	ends(t, r, api.ErrTail, 2, 28)
	if a, b := r.Short(), r.Short(); a != 258 || b != 65535 {
		t.Errorf("Short: %d, %d", a, b)
	}
	ends(t, r, api.ErrTail, 6, 24)
	if a, b, c := r.Long(), r.Long(), r.Long(); a != 0x0102030405060708 || b != -2 || c != math.MinInt64 {
		t.Errorf("Long: %d, %d, %d", a, b, c)
	}
	ends(t, r, api.OK, 0, 0)
}

func TestP12ReadsTexts(t *testing.T) {
	for _, c := range []struct {
		bytes string
		most  int
		want  string
		why   api.Errno
		at    int
		left  int
	}{
		{"\x02\x00ab", 2, "ab", api.OK, 0, 0},
		{"\x02\x00ab", math.MaxInt, "ab", api.OK, 0, 0},
		{"\x02\x00abc", 2, "ab", api.ErrTail, 4, 1},
		{"\x02\x00ab", 1, "", api.ErrLong, 0, 0},
		{"\x02\x00ab", 0, "", api.ErrLong, 0, 0},
		{"\x01\x00a", -1, "", api.ErrLong, 0, 0},
		{"\x01\x00a", math.MinInt, "", api.ErrLong, 0, 0},
		{"\x00\x00", 0, "", api.OK, 0, 0},
		{"\x00\x00", -1, "", api.OK, 0, 0},
		{"\x00\x00", math.MinInt, "", api.OK, 0, 0},
		{"\x00\x00x", -7, "", api.ErrTail, 2, 1},
		{"\x02\x00a", 2, "", api.ErrEnd, 3, 0},
		{"\x02\x00", 2, "", api.ErrEnd, 2, 0},
		{"\x02\x00", 1, "", api.ErrLong, 0, 0}, // too long is told ahead of missing bytes
		{"\x02", 2, "", api.ErrEnd, 1, 0},
		{"\x02", 1, "", api.ErrEnd, 1, 0},
		{"", 2, "", api.ErrEnd, 0, 0},
		{"", -1, "", api.ErrEnd, 0, 0},
		{"\x03\x00\xff\x00\xc3", 3, "\xff\x00\xc3", api.OK, 0, 0},
	} {
		r := wire.NewReader([]byte(c.bytes))
		if s := r.Text(c.most); s != c.want {
			t.Errorf("Text(%d) of %x: %x", c.most, c.bytes, s)
		}
		ends(t, r, c.why, c.at, c.left)
	}
}

func TestP12TooLongIsToldAtItsShort(t *testing.T) {
	r := wire.NewReader([]byte("xyz\x02\x00ab"))
	r.Byte()
	r.Short()
	if s := r.Text(1); s != "" {
		t.Errorf("%q", s)
	}
	ends(t, r, api.ErrLong, 3, 0)
}

func TestP12LongestText(t *testing.T) {
	text := strings.Repeat("t", 65535)
	for most, why := range map[int]api.Errno{65534: api.ErrLong, 65535: api.OK, 65536: api.OK} {
		r := wire.NewReader([]byte("\xff\xff" + text))
		s := r.Text(most)
		if (s == text) != (why == api.OK) || (s == "") != (why != api.OK) {
			t.Errorf("Text(%d): %d bytes", most, len(s))
		}
		ends(t, r, why, 0, 0)
	}
}

// TestP12MissingBytes: a read that lacks a byte reads none of the others.
func TestP12MissingBytes(t *testing.T) {
	for size, read := range map[int]func(r *wire.Reader) int64{
		1: func(r *wire.Reader) int64 { return int64(r.Byte()) },
		2: func(r *wire.Reader) int64 { return int64(r.Short()) },
		8: func(r *wire.Reader) int64 { return r.Long() },
	} {
		for n := range size {
			r := wire.NewReader([]byte("b" + strings.Repeat("x", n)))
			r.Byte()
			if v := read(r); v != 0 {
				t.Errorf("%d bytes of %d: %d", n, size, v)
			}
			ends(t, r, api.ErrEnd, 1+n, 0)
		}
	}
}

// fails are the ways to the first errors of a Reader of "a", 01, 00, "bcdefghij".
var fails = []struct {
	name string
	do   func(r *wire.Reader)
	why  api.Errno
	at   int
}{
	{"too long", func(r *wire.Reader) { r.Byte(); r.Text(0) }, api.ErrLong, 1},
	{"missing", func(r *wire.Reader) { r.Long(); r.Long() }, api.ErrEnd, 12},
	{"missing in a text", func(r *wire.Reader) { r.Byte(); r.Byte(); r.Byte(); r.Text(1 << 16) }, api.ErrEnd, 12},
	{"Fail at the start", func(r *wire.Reader) { r.Fail(api.ErrForm) }, api.ErrForm, 0},
	{"Fail within", func(r *wire.Reader) { r.Short(); r.Fail(api.ErrName) }, api.ErrName, 2},
	{"Fail at the end", func(r *wire.Reader) { r.Long(); r.Short(); r.Short(); r.Fail(api.ErrOver) }, api.ErrOver, 12},
	{"Fail behind a read text", func(r *wire.Reader) { r.Byte(); r.Text(1); r.Fail(api.ErrTail) }, api.ErrTail, 4},
	{"Fail with a number that has no name", func(r *wire.Reader) { r.Byte(); r.Fail(-5) }, -5, 1},
}

// TestP12FirstErrorRemains: behind an error, whatever is asked is empty and changes nothing.
func TestP12FirstErrorRemains(t *testing.T) {
	for _, f := range fails {
		r := wire.NewReader([]byte("a\x01\x00bcdefghij"))
		f.do(r)
		ends(t, r, f.why, f.at, 0)
		for range 2 {
			if a, b, c, d := r.Byte(), r.Short(), r.Long(), r.Text(9); a != 0 || b != 0 || c != 0 || d != "" {
				t.Errorf("%s: behind it are read %d, %d, %d, %q", f.name, a, b, c, d)
			}
			r.Text(-1)
			r.Fail(api.ErrDeep)
			r.Fail(api.OK)
			ends(t, r, f.why, f.at, 0)
		}
	}
}

func TestP12FailOKHasNoEffect(t *testing.T) {
	r := wire.NewReader([]byte("ab"))
	r.Fail(api.OK)
	ends(t, r, api.ErrTail, 0, 2)
	if r.Byte() != 'a' {
		t.Error("the first byte is not read")
	}
	r.Fail(api.OK)
	if r.Byte() != 'b' {
		t.Error("the second byte is not read")
	}
	r.Fail(api.OK)
	ends(t, r, api.OK, 0, 0)
	r.Fail(api.ErrForm)
	ends(t, r, api.ErrForm, 2, 0)
}

// TestP12LeftBytesStopNothing: what End tells of bytes that are left is no first error.
func TestP12LeftBytesStopNothing(t *testing.T) {
	r := wire.NewReader([]byte("ab"))
	r.Byte()
	ends(t, r, api.ErrTail, 1, 1)
	ends(t, r, api.ErrTail, 1, 1)
	if b := r.Byte(); b != 'b' {
		t.Errorf("behind End: %d", b)
	}
	ends(t, r, api.OK, 0, 0)
}

func TestP12NoBytes(t *testing.T) {
	for _, b := range [][]byte{nil, {}} {
		ends(t, wire.NewReader(b), api.OK, 0, 0)
		r := wire.NewReader(b)
		if n := r.Byte(); n != 0 {
			t.Errorf("%d of no bytes", n)
		}
		ends(t, r, api.ErrEnd, 0, 0)
	}
}

func TestP12KeepsNothingOfItsArgument(t *testing.T) {
	whole := []byte("abcd")
	r := wire.NewReader(whole[:2])
	whole[0], whole[1] = 'y', 'z'
	if a, b := r.Byte(), r.Byte(); a != 'a' || b != 'b' {
		t.Errorf("%c, %c: the argument changed what is read", a, b)
	}
	ends(t, r, api.OK, 0, 0)
	if n := r.Byte(); n != 0 {
		t.Errorf("%c is read from the spare capacity", n)
	}
	if string(whole) != "yzcd" {
		t.Errorf("the argument is now %q", whole)
	}
}

// read is what one step of a walk read.
type read struct {
	kind int
	n    int64
	s    string
}

// walk reads by the kinds until an error or the end of the kinds, and returns what was read and how many bytes that took.
func walk(r *wire.Reader, kinds []int, size int) ([]read, int) {
	var l []read
	used := 0
	for _, k := range kinds {
		v := read{kind: k}
		switch k {
		case 0:
			v.n = int64(r.Byte())
		case 1:
			v.n = int64(r.Short())
		case 2:
			v.n = r.Long()
		case 3:
			v.s = r.Text(65535)
		}
		if why, _ := r.End(); why != api.OK && why != api.ErrTail {
			break
		}
		l, used = append(l, v), size-r.Left()
	}
	return l, used
}

// write writes what a walk read.
func write(l []read) []byte {
	w := wire.NewWriter()
	for _, v := range l {
		switch v.kind {
		case 0:
			w.Byte(int(v.n))
		case 1:
			w.Short(int(v.n))
		case 2:
			w.Long(v.n)
		case 3:
			w.Text(v.s)
		}
	}
	return w.Done()
}

// values returns random values and their kinds, with those at the edges often among them.
func values(x *rand.Rand) ([]read, []int) {
	longs := []int64{0, 1, -1, 255, 256, math.MaxInt64, math.MinInt64, int64(x.Uint64())}
	texts := []string{"", "\x00", "ab", "\xff\xfe", strings.Repeat("t", x.Intn(300)), strings.Repeat("t", 65535)}
	var l []read
	var kinds []int
	for range x.Intn(8) {
		v := read{kind: x.Intn(4)}
		switch v.kind {
		case 0:
			v.n = int64(x.Intn(256))
		case 1:
			v.n = int64(x.Intn(65536))
		case 2:
			v.n = longs[x.Intn(len(longs))]
		case 3:
			v.s = texts[x.Intn(len(texts))]
		}
		l, kinds = append(l, v), append(kinds, v.kind)
	}
	return l, kinds
}

// TestP13WrittenIsReadBack: and a beginning of what is written ends with ErrEnd.
func TestP13WrittenIsReadBack(t *testing.T) {
	x := rand.New(rand.NewSource(13))
	for range 3000 {
		l, kinds := values(x)
		b := write(l)
		r := wire.NewReader(b)
		back, used := walk(r, kinds, len(b))
		if len(back) != len(l) || used != len(b) {
			t.Fatalf("%d values of %d, %d bytes of %d", len(back), len(l), used, len(b))
		}
		for i, v := range l {
			if back[i] != v {
				t.Fatalf("value %d is read back otherwise", i)
			}
		}
		ends(t, r, api.OK, 0, 0)
		if len(b) > 0 {
			cut := x.Intn(len(b))
			r = wire.NewReader(b[:cut])
			walk(r, kinds, cut)
			ends(t, r, api.ErrEnd, cut, 0)
		}
	}
}

// TestP13OneEncoding: whatever bytes are read as values, these values are written as the same bytes.
func TestP13OneEncoding(t *testing.T) {
	x := rand.New(rand.NewSource(14))
	for range 20000 {
		b := make([]byte, x.Intn(40))
		for i := range b {
			if b[i] = byte(x.Intn(256)); x.Intn(2) == 0 {
				b[i] = byte(x.Intn(4))
			}
		}
		_, kinds := values(x)
		l, used := walk(wire.NewReader(b), kinds, len(b))
		if s := string(write(l)); s != string(b[:used]) {
			t.Fatalf("%x is read and written as %x", b[:used], s)
		}
	}
}

func TestP13EveryByteAndShort(t *testing.T) {
	for n := range 65536 {
		r := wire.NewReader([]byte(written(func(w *wire.Writer) { w.Byte(n); w.Short(n) })))
		if a, b := r.Byte(), r.Short(); a != n&255 || b != n {
			t.Fatalf("%d is read back as %d and %d", n, a, b)
		}
	}
}
