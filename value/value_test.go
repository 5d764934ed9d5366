package value_test

import (
	"fmt"
	"math"
	"math/rand"
	"sort"
	"strings"
	"testing"

	"confluence/api"
	"confluence/value"
	"confluence/wire"
)

var (
	numbers = []int64{math.MinInt64, math.MinInt64 + 1, -1 << 32, -256, -10, -9, -5, -1, 0, 1, 5, 9, 10, 255, 256, 1 << 32, 1 << 53, math.MaxInt64 - 1, math.MaxInt64}
	longest = strings.Repeat("z", api.MaxText)
	texts   = []string{"", "\x00", "\x00\x00", "\x1f", " ", "!", "\"", "0", "9", "A", "[", "\\", "]", "a", "a\"b", "aa", "ab", "abc", "b", "~", "\x7f", "\x80", "\xc3", "ä", "世界", "\xff", "\xff\xff", longest, longest[1:], strings.Repeat("\xff", api.MaxText)}
)

// valid are values of both Kinds, at the edges and random ones.
func valid() []api.Value {
	var all []api.Value
	for _, n := range numbers {
		all = append(all, api.Value{Kind: api.Int, N: n})
	}
	for _, s := range texts {
		all = append(all, api.Value{Kind: api.Text, S: s})
	}
	x := rand.New(rand.NewSource(4))
	for range 60 {
		all = append(all, api.Value{Kind: api.Int, N: int64(x.Uint64())}, api.Value{Kind: api.Text, S: random(x)})
	}
	return all
}

// random returns a text of any bytes.
func random(x *rand.Rand) string {
	b := make([]byte, x.Intn(api.MaxText+1))
	x.Read(b)
	return string(b)
}

// wrong are values that are not valid.
func wrong() []api.Value {
	return []api.Value{
		{},
		{N: 3},
		{S: "a"},
		{Kind: 3},
		{Kind: 3, N: 1},
		{Kind: 3, S: "a"},
		{Kind: -1, N: 7},
		{Kind: 256, N: 7},
		{Kind: 256 + api.Int, N: 7},
		{Kind: 256 + api.Text, S: "a"},
		{Kind: math.MaxInt},
		{Kind: math.MinInt, S: "a"},
		{Kind: api.Int, N: 3, S: "x"},
		{Kind: api.Int, S: "x"},
		{Kind: api.Int, N: 3, S: "\x00"},
		{Kind: api.Text, N: 1, S: "x"},
		{Kind: api.Text, N: -1},
		{Kind: api.Text, N: math.MinInt64, S: longest},
		{Kind: api.Text, S: longest + "z"},
		{Kind: api.Text, S: strings.Repeat("z", 70000)},
	}
}

// put returns what Put writes of v.
func put(v api.Value) string {
	w := wire.NewWriter()
	value.Put(w, v)
	return string(w.Done())
}

// tell returns v in bytes that can be printed, its text cut short.
func tell(v api.Value) string { return fmt.Sprintf("{%d %d %+.60q}", v.Kind, v.N, v.S) }

// head returns the length of a text as Put writes it.
func head(n int) string { return string([]byte{byte(n), byte(n >> 8)}) }

func TestP41NumAndStrMakeTheirKinds(t *testing.T) {
	for _, n := range numbers {
		if v := value.Num(n); v != (api.Value{Kind: api.Int, N: n}) || !value.Right(v) {
			t.Errorf("Num(%d): %s", n, tell(v))
		}
	}
	for _, s := range texts {
		if v := value.Str(s); v != (api.Value{Kind: api.Text, S: s}) || !value.Right(v) {
			t.Errorf("Str(%q): %s", s, tell(v))
		}
	}
	if v := value.Str(longest + "z"); v != (api.Value{Kind: api.Text, S: longest + "z"}) {
		t.Errorf("Str of a text that is too long: %s", tell(v))
	}
}

func TestP41RightOfValues(t *testing.T) {
	for _, v := range valid() {
		if !value.Right(v) {
			t.Errorf("%s is valid", tell(v))
		}
	}
	for _, v := range wrong() {
		if value.Right(v) {
			t.Errorf("%s is not valid", tell(v))
		}
	}
}

func TestP41RightOfTextsAboutTheBound(t *testing.T) {
	for n := range 3 * api.MaxText {
		if s := strings.Repeat("ä", n/2) + strings.Repeat("x", n%2); value.Right(value.Str(s)) != (n <= api.MaxText) {
			t.Errorf("a text of %d bytes: %v", n, value.Right(value.Str(s)))
		}
	}
}

func TestP41LessOfKnownValues(t *testing.T) {
	num, str := value.Num, value.Str
	inOrder := []api.Value{
		num(math.MinInt64), num(math.MinInt64 + 1), num(-10), num(-9), num(-1), num(0), num(1), num(9), num(10), num(math.MaxInt64 - 1), num(math.MaxInt64),
		str(""), str("\x00"), str("\x00a"), str("-"), str("10"), str("9"), str("A"), str("B"), str("a"), str("a\x00"), str("aB"), str("aa"), str("ab"), str("b"), str(longest[1:]), str(longest), str("\x7f"), str("\x80"), str("ä"), str("\xff"), str("\xff\xff"),
	}
	for i, a := range inOrder {
		for k, b := range inOrder {
			if value.Less(a, b) != (i < k) {
				t.Errorf("Less(%s, %s): %v", value.Show(a), value.Show(b), value.Less(a, b))
			}
		}
	}
}

func TestP41LessOfWrongValues(t *testing.T) {
	for _, bad := range wrong() {
		for _, other := range append(valid(), wrong()...) {
			if value.Less(bad, other) || value.Less(other, bad) {
				t.Errorf("%s and %s have an order", tell(bad), tell(other))
			}
		}
	}
}

func TestP42PutWrites(t *testing.T) {
	for _, c := range []struct {
		v    api.Value
		want string
	}{
		{value.Num(0), "\x01\x00\x00\x00\x00\x00\x00\x00\x00"},
		{value.Num(258), "\x01\x02\x01\x00\x00\x00\x00\x00\x00"},
		{value.Num(-1), "\x01\xff\xff\xff\xff\xff\xff\xff\xff"},
		{value.Num(math.MinInt64), "\x01\x00\x00\x00\x00\x00\x00\x00\x80"},
		{value.Num(math.MaxInt64), "\x01\xff\xff\xff\xff\xff\xff\xff\x7f"},
		{value.Str(""), "\x02\x00\x00"},
		{value.Str("ab"), "\x02\x02\x00ab"},
		{value.Str("\xff\x00\""), "\x02\x03\x00\xff\x00\""},
		{value.Str(longest), "\x02\x28\x00" + longest},
		// Values that are not valid are written, too: an Int without its S, all others without their N.
		{value.Str(longest + "z"), "\x02\x29\x00" + longest + "z"},
		{api.Value{Kind: api.Int, N: 3, S: "x"}, "\x01\x03\x00\x00\x00\x00\x00\x00\x00"},
		{api.Value{Kind: api.Text, N: 3, S: "x"}, "\x02\x01\x00x"},
		{api.Value{}, "\x00\x00\x00"},
		{api.Value{Kind: 3, N: 3, S: "x"}, "\x03\x01\x00x"},
		{api.Value{Kind: -1, N: 3, S: "x"}, "\xff\x01\x00x"},
		{api.Value{Kind: 256 + api.Int, N: 3, S: "x"}, "\x01\x01\x00x"},
	} {
		if s := put(c.v); s != c.want {
			t.Errorf("Put of %s: %x, not %x", tell(c.v), s, c.want)
		}
	}
}

func TestP42PutGoesOnBehindWhatIsWritten(t *testing.T) {
	w := wire.NewWriter()
	w.Byte(7)
	value.Put(w, value.Str("a"))
	value.Put(nil, value.Num(9))
	value.Put(w, value.Num(1))
	w.Byte(8)
	if s := string(w.Done()); s != "\x07\x02\x01\x00a\x01\x01\x00\x00\x00\x00\x00\x00\x00\x08" {
		t.Errorf("%x", s)
	}
}

// gets checks what Get reads from b, and how the Reader stands then.
func gets(t *testing.T, b string, want api.Value, why api.Errno, at, left int) {
	t.Helper()
	r := wire.NewReader([]byte(b))
	if v := value.Get(r); v != want {
		t.Errorf("Get of %x: %s, not %s", b, tell(v), tell(want))
	}
	if w, a := r.End(); w != why || a != at || r.Left() != left {
		t.Errorf("Get of %x ends with %d at %d, %d left; not with %d at %d, %d left", b, w, a, r.Left(), why, at, left)
	}
}

func TestP42GetReads(t *testing.T) {
	gets(t, "\x01\x02\x01\x00\x00\x00\x00\x00\x00", value.Num(258), api.OK, 0, 0)
	gets(t, "\x01\xff\xff\xff\xff\xff\xff\xff\xff", value.Num(-1), api.OK, 0, 0)
	gets(t, "\x01\x00\x00\x00\x00\x00\x00\x00\x80", value.Num(math.MinInt64), api.OK, 0, 0)
	gets(t, "\x01\x00\x00\x00\x00\x00\x00\x00\x00", value.Num(0), api.OK, 0, 0)
	gets(t, "\x02\x00\x00", value.Str(""), api.OK, 0, 0)
	gets(t, "\x02\x02\x00ab", value.Str("ab"), api.OK, 0, 0)
	gets(t, "\x02\x28\x00"+longest, value.Str(longest), api.OK, 0, 0)
	gets(t, "\x02\x02\x00abc", value.Str("ab"), api.ErrTail, 5, 1)
	gets(t, "\x01\x02\x01\x00\x00\x00\x00\x00\x00\x01\x02", value.Num(258), api.ErrTail, 9, 2)
}

func TestP42GetOfAnotherKind(t *testing.T) {
	for kind := range 256 {
		if kind == api.Int || kind == api.Text {
			continue
		}
		gets(t, string([]byte{byte(kind)}), api.Value{}, api.ErrForm, 1, 0)
		gets(t, string([]byte{byte(kind), 1, 0, 'x', 0, 0, 0, 0, 0, 0}), api.Value{}, api.ErrForm, 1, 0)
	}
}

func TestP42GetOfBytesThatEndTooSoon(t *testing.T) {
	gets(t, "", api.Value{}, api.ErrEnd, 0, 0)
	for _, v := range valid() {
		whole := put(v)
		for n := range whole {
			gets(t, whole[:n], api.Value{}, api.ErrEnd, n, 0)
		}
	}
}

func TestP42GetOfATextThatIsTooLong(t *testing.T) {
	for _, n := range []int{api.MaxText + 1, api.MaxText + 2, 255, 256, 65535} {
		gets(t, "\x02"+head(n)+strings.Repeat("x", n), api.Value{}, api.ErrLong, 1, 0)
		gets(t, "\x02"+head(n), api.Value{}, api.ErrLong, 1, 0)
	}
	r := wire.NewReader([]byte("\x02\x00\x00" + put(value.Str(longest+"z")) + put(value.Num(1))))
	value.Get(r)
	if v := value.Get(r); v != (api.Value{}) {
		t.Errorf("the text that is too long: %s", tell(v))
	}
	if why, at := r.End(); why != api.ErrLong || at != 4 {
		t.Errorf("ends with %d at %d", why, at)
	}
}

func TestP42GetOfAReaderThatHasAnError(t *testing.T) {
	for _, why := range []api.Errno{api.ErrArg, api.ErrLong, api.ErrEnd, api.ErrTail, api.ErrForm, api.ErrFull} {
		for _, v := range valid() {
			r := wire.NewReader([]byte("\x07" + put(v) + put(v)))
			r.Byte()
			r.Fail(why)
			if got := value.Get(r); got != (api.Value{}) {
				t.Errorf("behind error %d: %s", why, tell(got))
			}
			if w, at := r.End(); w != why || at != 1 || r.Left() != 0 {
				t.Errorf("error %d became %d at %d", why, w, at)
			}
		}
	}
}

func TestP42GetAfterItsOwnError(t *testing.T) {
	r := wire.NewReader([]byte("\x05" + put(value.Num(1))))
	for range 3 {
		if v := value.Get(r); v != (api.Value{}) {
			t.Error(tell(v))
		}
	}
	if why, at := r.End(); why != api.ErrForm || at != 1 {
		t.Errorf("ends with %d at %d", why, at)
	}
}

func TestP42WithoutAWriterOrReader(t *testing.T) {
	for _, v := range append(valid(), wrong()...) {
		value.Put(nil, v)
	}
	if v := value.Get(nil); v != (api.Value{}) {
		t.Errorf("Get without a Reader: %s", tell(v))
	}
}

func TestP42ShowOfInts(t *testing.T) {
	for _, n := range numbers {
		if s := value.Show(value.Num(n)); s != fmt.Sprint(n) {
			t.Errorf("Show of %d: %s", n, s)
		}
	}
	for n, want := range map[int64]string{0: "0", -5: "-5", 7: "7", 10: "10", -100: "-100", math.MinInt64: "-9223372036854775808", math.MaxInt64: "9223372036854775807"} {
		if s := value.Show(value.Num(n)); s != want {
			t.Errorf("Show: %s, not %s", s, want)
		}
	}
}

func TestP42ShowOfTexts(t *testing.T) {
	for s, want := range map[string]string{
		"":                 `""`,
		"a":                `"a"`,
		"a\"b":             `"a\22b"`,
		"a\\b":             `"a\5cb"`,
		"\\22":             `"\5c22"`,
		"\"":               `"\22"`,
		" !#[]~":           `" !#[]~"`,
		"it's":             `"it's"`,
		"\x1f\x20\x21":     `"\1f !"`,
		"\x7d\x7e\x7f\x80": `"}~\7f\80"`,
		"\x00\n\t\r":       `"\00\0a\09\0d"`,
		"\xab\xcd\xef\xff": `"\ab\cd\ef\ff"`,
		"ä":                `"\c3\a4"`,
		"-5":               `"-5"`,
		"?":                `"?"`,
		longest:            `"` + longest + `"`,
	} {
		if got := value.Show(value.Str(s)); got != want {
			t.Errorf("Show of %q: %s, not %s", s, got, want)
		}
	}
}

func TestP42ShowOfEachByte(t *testing.T) {
	for b := range 256 {
		want := fmt.Sprintf(`\%02x`, b)
		if b >= 32 && b <= 126 && b != '"' && b != '\\' {
			want = string(rune(b))
		}
		if s := value.Show(value.Str(string([]byte{'x', byte(b), 'y'}))); s != `"x`+want+`y"` {
			t.Errorf("byte %d: %s", b, s)
		}
	}
}

func TestP42ShowOfWrongValues(t *testing.T) {
	for _, v := range wrong() {
		if s := value.Show(v); s != "?" {
			t.Errorf("Show of %s: %.60s", tell(v), s)
		}
	}
}

func TestP42ShowTellsValuesApart(t *testing.T) {
	shown := map[string]api.Value{}
	for _, v := range valid() {
		s := value.Show(v)
		if other, ok := shown[s]; ok && other != v {
			t.Errorf("%s and %s are both %s", tell(v), tell(other), s)
		}
		shown[s] = v
	}
}

func TestP43LessIsAStrictOrder(t *testing.T) {
	all := valid()
	for _, a := range all {
		for _, b := range all {
			forth, back := value.Less(a, b), value.Less(b, a)
			if forth && back || (forth || back) == (a == b) {
				t.Fatalf("%s and %s: %v, %v", tell(a), tell(b), forth, back)
			}
			for _, c := range all {
				if forth && value.Less(b, c) && !value.Less(a, c) {
					t.Fatalf("%s, %s, %s", tell(a), tell(b), tell(c))
				}
			}
		}
	}
}

func TestP43SortedByLess(t *testing.T) {
	all := valid()
	sort.SliceStable(all, func(i, k int) bool { return value.Less(all[i], all[k]) })
	for i, v := range all[1:] {
		before := all[i]
		if before.Kind > v.Kind || before.Kind == v.Kind && (before.N > v.N || before.S > v.S) {
			t.Errorf("%s comes before %s", tell(before), tell(v))
		}
	}
}

func TestP43WhatPutHasWrittenIsReadByGet(t *testing.T) {
	w := wire.NewWriter()
	all := valid()
	for _, v := range all {
		value.Put(w, v)
		gets(t, put(v), v, api.OK, 0, 0)
	}
	r := wire.NewReader(w.Done())
	for _, v := range all {
		if got := value.Get(r); got != v {
			t.Fatalf("%s was written, %s is read", tell(v), tell(got))
		}
	}
	if why, at := r.End(); why != api.OK || at != 0 {
		t.Errorf("ends with %d at %d", why, at)
	}
}

func TestP43WhatGetReadsIsValidAndHasOneEncoding(t *testing.T) {
	x := rand.New(rand.NewSource(43))
	for range 20000 {
		b := []byte(random(x))
		if len(b) > 2 {
			b[0], b[1], b[2] = byte(x.Intn(4)), byte(x.Intn(api.MaxText+2)), byte(x.Intn(8)/7)
		}
		r := wire.NewReader(b)
		v := value.Get(r)
		if why, _ := r.End(); why != api.OK && why != api.ErrTail {
			if v != (api.Value{}) {
				t.Fatalf("beside error %d: %s", why, tell(v))
			}
			continue
		}
		if !value.Right(v) || put(v) != string(b[:len(b)-r.Left()]) {
			t.Fatalf("%x is read as %s", b, tell(v))
		}
	}
}
