package row_test

import (
	"fmt"
	"math"
	"math/rand"
	"slices"
	"sort"
	"strings"
	"testing"

	"confluence/api"
	"confluence/row"
	"confluence/value"
	"confluence/wire"
)

var (
	words   = strings.Fields("table filter project join union distinct group count sum min max add sub mul neg eq lt and or not cat len if")
	longest = strings.Repeat("z", api.MaxText)
)

func num(n int64) api.Value { return value.Num(n) }

func str(s string) api.Value { return value.Str(s) }

// ints returns a row of Ints.
func ints(l ...int64) api.Row {
	var r api.Row
	for _, n := range l {
		r = append(r, num(n))
	}
	return r
}

// cols returns columns whose Kinds the capital letters tell: aI is an Int a, bT a Text b, c3 is of no Kind.
func cols(s string) []api.Col {
	var l []api.Col
	for _, f := range strings.Fields(s) {
		last := len(f) - 1
		l = append(l, api.Col{Name: f[:last], Kind: map[byte]int{'I': api.Int, 'T': api.Text, '3': 3, '0': 0, '-': -1, '+': 256 + api.Int}[f[last]]})
	}
	return l
}

// wrongValues are values that are not valid.
func wrongValues() []api.Value {
	return []api.Value{
		{},
		{N: 3},
		{S: "a"},
		{Kind: 3, N: 1, S: "a"},
		{Kind: -1, N: 7},
		{Kind: 256 + api.Int, N: 7},
		{Kind: 256 + api.Text, S: "a"},
		{Kind: math.MaxInt},
		{Kind: api.Int, N: 3, S: "x"},
		{Kind: api.Text, N: 1, S: "x"},
		{Kind: api.Text, S: longest + "z"},
	}
}

// validRows are rows of every length, among them ones that begin one another.
func validRows() []api.Row {
	atoms := []api.Value{num(math.MinInt64), num(-1), num(0), num(math.MaxInt64), str(""), str("a"), str("ab"), str(longest)}
	var all []api.Row
	for _, a := range atoms {
		all = append(all, api.Row{a})
		for _, b := range atoms {
			all = append(all, api.Row{a, b})
		}
	}
	for n := 3; n <= api.MaxCols; n++ {
		all = append(all, slices.Repeat(api.Row{num(0)}, n), slices.Repeat(api.Row{str("a")}, n), append(slices.Repeat(api.Row{num(0)}, n-1), str("")))
	}
	x := rand.New(rand.NewSource(5))
	for range 30 {
		all = append(all, randomRow(x))
	}
	return all
}

// randomRow returns a valid row of few values that differ.
func randomRow(x *rand.Rand) api.Row {
	r := make(api.Row, 1+x.Intn(api.MaxCols))
	for i := range r {
		r[i] = num(int64(x.Intn(3)))
		if x.Intn(2) == 0 {
			r[i] = str(strings.Repeat("a", x.Intn(3)))
		}
	}
	return r
}

// wrongRows are rows that are not valid: no value, too many, a wrong value at each place.
func wrongRows() []api.Row {
	all := []api.Row{nil, {}, slices.Repeat(api.Row{num(0)}, api.MaxCols+1), slices.Repeat(api.Row{str("a")}, 300)}
	for _, bad := range wrongValues() {
		for n := 1; n <= api.MaxCols; n++ {
			for at := range n {
				r := slices.Repeat(api.Row{num(1)}, n)
				r[at] = bad
				all = append(all, r)
			}
		}
	}
	return all
}

// put returns what Put writes of r.
func put(r api.Row) string {
	w := wire.NewWriter()
	row.Put(w, r)
	return string(w.Done())
}

// tell returns r in bytes that can be printed.
func tell(r api.Row) string {
	if len(r) > 10 {
		return fmt.Sprintf("a row of %d values", len(r))
	}
	return fmt.Sprintf("%+q", fmt.Sprint(r))
}

func TestP51NameOfLetters(t *testing.T) {
	for b := byte('a'); b <= 'z'; b++ {
		for n := 1; n <= api.MaxName; n++ {
			if s := strings.Repeat(string(b), n); !row.Name(s) {
				t.Errorf("%s is a name", s)
			}
		}
		for _, n := range []int{api.MaxName + 1, api.MaxName + 2, 256 + 1, 65536 + 1} {
			if row.Name(strings.Repeat(string(b), n)) {
				t.Errorf("%d times %c is no name", n, b)
			}
		}
	}
	for _, s := range []string{"v", "orders", "abcdefghijkl", "nopqrstuvwxy", "zzzzzzzzzzzz", "text", "int", "column", "view", "desc", "div", "gt", "le", "ge", "xor", "avg"} {
		if !row.Name(s) {
			t.Errorf("%s is a name", s)
		}
	}
	if row.Name("") {
		t.Error("an empty name")
	}
}

func TestP51NameOfOtherBytes(t *testing.T) {
	for b := range 256 {
		letter := 'a' <= b && b <= 'z'
		c := string([]byte{byte(b)})
		for _, s := range []string{c, c + "v", "v" + c, "v" + c + "v", strings.Repeat("v", api.MaxName-1) + c, c + strings.Repeat("v", api.MaxName-1)} {
			if row.Name(s) != letter {
				t.Errorf("Name(%q): %v", s, !letter)
			}
		}
	}
	for _, s := range []string{"`", "{", "a`", "{z", "A", "Z", "aB", "a b", " a", "a ", "a_b", "a1", "1", "-", "ä", "é", "a\x00", "\x00", "ａ", "ſ"} {
		if row.Name(s) {
			t.Errorf("%q is no name", s)
		}
	}
}

func TestP51NameOfWords(t *testing.T) {
	if len(words) != 23 {
		t.Fatalf("%d words", len(words))
	}
	for _, s := range words {
		if row.Name(s) {
			t.Errorf("%s is a word", s)
		}
		for _, near := range []string{s + "x", "x" + s, s + s} {
			if len(near) <= api.MaxName && !row.Name(near) {
				t.Errorf("%s is a name", near)
			}
		}
		if row.Name(strings.ToUpper(s)) {
			t.Errorf("%s is no name", strings.ToUpper(s))
		}
		if cut := s[:len(s)-1]; !slices.Contains(words, cut) && !row.Name(cut) {
			t.Errorf("%s is a name", cut)
		}
	}
}

func TestP51Columns(t *testing.T) {
	for _, c := range []struct {
		l    string
		want api.Errno
	}{
		{"aI", api.OK},
		{"aT", api.OK},
		{"aI bT", api.OK},
		{"aT bI", api.OK},
		{"aI bI cI dI eI fI", api.OK},
		{"fT eT dT cT bT aT", api.OK},
		{"abcdefghijklI abcdefghijkI", api.OK},
		{"", api.ErrCount},
		{"aI bI cI dI eI fI gI", api.ErrCount},
		{"abcdefghijklmI", api.ErrName},
		{"tableI", api.ErrName},
		{"aI lenT", api.ErrName},
		{"AI", api.ErrName},
		{"I", api.ErrName},
		{"aI bI cI dI eI T", api.ErrName},
		{"a0", api.ErrName},
		{"a3", api.ErrName},
		{"a-", api.ErrName},
		{"a+", api.ErrName},
		{"aI b3", api.ErrName},
		{"aI bI cI dI eI f0", api.ErrName},
		{"aI aI", api.ErrTaken},
		{"aI aT", api.ErrTaken},
		{"aI bT aT", api.ErrTaken},
		{"aI bT bT", api.ErrTaken},
		{"aI bI cI dI eI aI", api.ErrTaken},
		{"aI bI cI dI eI eI", api.ErrTaken},
		// Of several errors, the number of columns counts first, then the first column, then the name ahead of its use.
		{"aI aI aI aI aI aI aI", api.ErrCount},
		{"tableI a3 aI aI AI xI yI", api.ErrCount},
		{"aI aI tableI", api.ErrTaken},
		{"aI aI b3", api.ErrTaken},
		{"aI tableI aI", api.ErrName},
		{"aI b3 aI", api.ErrName},
		{"aI a3", api.ErrName},
		{"aI a3 aI", api.ErrName},
		{"tableI tableI", api.ErrName},
		{"a3 a3", api.ErrName},
		{"a3 aI", api.ErrName},
	} {
		if why := row.Columns(cols(c.l)); why != c.want {
			t.Errorf("Columns of %q: %d, not %d", c.l, why, c.want)
		}
	}
	if row.Columns(nil) != api.ErrCount || row.Columns([]api.Col{}) != api.ErrCount {
		t.Error("Columns of an empty list")
	}
	if why := row.Columns(make([]api.Col, 300)); why != api.ErrCount {
		t.Errorf("Columns of 300 without a name: %d", why)
	}
}

func TestP51ColumnsOfEachWordAndKind(t *testing.T) {
	for _, s := range words {
		for at := range api.MaxCols {
			l := cols("aI bT cI dT eI fT")
			l[at].Name = s
			if why := row.Columns(l); why != api.ErrName {
				t.Errorf("Columns with %s at %d: %d", s, at, why)
			}
		}
	}
	for _, kind := range []int{0, 3, 4, -1, 256, 256 + api.Int, 256 + api.Text, 1<<32 + api.Int, math.MinInt, math.MaxInt} {
		for at := range api.MaxCols {
			l := cols("aI bT cI dT eI fT")
			l[at].Kind = kind
			if why := row.Columns(l); why != api.ErrName {
				t.Errorf("Columns with Kind %d at %d: %d", kind, at, why)
			}
		}
	}
}

func TestP51Find(t *testing.T) {
	long := append(cols("aI bI cI dI eI fI gI hI"), api.Col{Kind: api.Int})
	for _, c := range []struct {
		l    []api.Col
		name string
		at   int
		ok   bool
	}{
		{cols("aI"), "a", 0, true},
		{cols("aI bT cI"), "a", 0, true},
		{cols("aI bT cI"), "b", 1, true},
		{cols("aI bT cI"), "c", 2, true},
		{cols("aI bT cI"), "d", 0, false},
		{cols("aI bT cI"), "", 0, false},
		{cols("aI bT cI"), "A", 0, false},
		{cols("aI bT cI"), "a ", 0, false},
		{cols("abI bT"), "a", 0, false},
		{cols("aI bT"), "ab", 0, false},
		{nil, "a", 0, false},
		{nil, "", 0, false},
		{[]api.Col{}, "a", 0, false},
		// Lists that are not valid are looked through as well, up to the first column with the name.
		{cols("aI bT aT bI"), "a", 0, true},
		{cols("aI bT aT bI"), "b", 1, true},
		{cols("aI b3 tableI"), "b", 1, true},
		{cols("aI b3 tableI"), "table", 2, true},
		{long, "h", 7, true},
		{long, "", 8, true},
	} {
		if at, ok := row.Find(c.l, c.name); at != c.at || ok != c.ok {
			t.Errorf("Find(%v, %q): %d, %v", c.l, c.name, at, ok)
		}
	}
}

func TestP51FindDoesNotReadSpareCapacity(t *testing.T) {
	l := cols("aI bT")
	if at, ok := row.Find(l[:1], "b"); at != 0 || ok {
		t.Errorf("Find: %d, %v", at, ok)
	}
	if why := row.Columns(cols("aI aT")[:1]); why != api.OK {
		t.Errorf("Columns: %d", why)
	}
}

func TestP52Right(t *testing.T) {
	for _, r := range validRows() {
		if !row.Right(r) {
			t.Errorf("%s is valid", tell(r))
		}
	}
	for _, r := range wrongRows() {
		if row.Right(r) {
			t.Errorf("%s is not valid", tell(r))
		}
	}
	for n := range 20 {
		if row.Right(slices.Repeat(api.Row{num(7)}, n)) != (1 <= n && n <= api.MaxCols) {
			t.Errorf("a row of %d values", n)
		}
	}
}

func TestP52Fits(t *testing.T) {
	for _, c := range []struct {
		l    string
		r    api.Row
		want bool
	}{
		{"aI", ints(1), true},
		{"aI", ints(math.MinInt64), true},
		{"aT", api.Row{str("")}, true},
		{"aT", api.Row{str(longest)}, true},
		{"aI bT", api.Row{num(1), str("x")}, true},
		{"aI bI cI dI eI fI", ints(1, 2, 3, 4, 5, 6), true},
		{"aI", api.Row{str("x")}, false},
		{"aT", ints(1), false},
		{"aI bT", api.Row{str("x"), num(1)}, false},
		{"aI bT", api.Row{num(1), num(1)}, false},
		{"aI bT", api.Row{str("x"), str("x")}, false},
		{"aI bI cI dI eI fT", ints(1, 2, 3, 4, 5, 6), false},
		{"aT bI cI dI eI fI", ints(1, 2, 3, 4, 5, 6), false},
		// longer and shorter
		{"aI", ints(1, 2), false},
		{"aI bI", ints(1), false},
		{"aI", nil, false},
		{"aI", api.Row{}, false},
		{"", ints(1), false},
		{"aI bI cI dI eI fI", ints(1, 2, 3, 4, 5), false},
		{"aI bI cI dI eI", ints(1, 2, 3, 4, 5, 6), false},
		// a Kind that is none has no values
		{"a3", ints(1), false},
		{"a3", api.Row{{Kind: 3}}, false},
		{"a0", api.Row{{}}, false},
		{"a-", api.Row{{Kind: -1}}, false},
		{"a+", ints(1), false},
		{"a+", api.Row{{Kind: 256 + api.Int, N: 1}}, false},
		// only the numbers and Kinds are compared, whatever else is wrong with the list
		{"", nil, true},
		{"", api.Row{}, true},
		{"aI aI", ints(1, 2), true},
		{"tableI T", api.Row{num(1), str("x")}, true},
		{"aI bI cI dI eI fI gI", ints(1, 2, 3, 4, 5, 6, 7), true},
	} {
		if got := row.Fits(cols(c.l), c.r); got != c.want {
			t.Errorf("Fits(%q, %s): %v", c.l, tell(c.r), got)
		}
	}
}

func TestP52FitsOfWrongValues(t *testing.T) {
	for _, bad := range wrongValues() {
		for at := range api.MaxCols {
			l, r := cols("aI bI cI dI eI fI"), ints(1, 2, 3, 4, 5, 6)
			l[at].Kind, r[at] = bad.Kind, bad
			if row.Fits(l, r) {
				t.Errorf("%s fits", tell(r))
			}
		}
	}
}

// inOrder are valid rows, each of which comes before all that follow.
var inOrder = []api.Row{
	ints(math.MinInt64),
	ints(-1),
	ints(-1, math.MaxInt64),
	{num(-1), str("")},
	ints(1),
	ints(1, -5),
	ints(1, 2),
	ints(1, 2, 3),
	ints(1, 2, 3, 4, 5),
	ints(1, 2, 3, 4, 5, -6),
	ints(1, 2, 3, 4, 5, 6),
	{num(1), num(2), num(3), num(4), num(5), str("")},
	ints(1, 3),
	ints(1, 10),
	{num(1), str("")},
	{num(1), str("a")},
	{num(1), str("a"), num(0)},
	{num(1), str("ab")},
	ints(2),
	ints(2, 1),
	ints(10),
	ints(math.MaxInt64),
	{str("")},
	{str(""), num(9)},
	{str(""), str("")},
	{str("\x00")},
	{str("10")},
	{str("9")},
	{str("a")},
	{str("a"), num(0)},
	{str("a"), str("b")},
	{str("a"), str("b"), str("a")},
	{str("aa")},
	{str("aa"), str("a")},
	{str("b")},
	{str("\xff")},
}

func TestP52LessAndSameOfKnownRows(t *testing.T) {
	for i, a := range inOrder {
		for k, b := range inOrder {
			b = slices.Clone(b)
			if row.Less(a, b) != (i < k) {
				t.Errorf("Less(%s, %s): %v", tell(a), tell(b), i >= k)
			}
			if row.Same(a, b) != (i == k) {
				t.Errorf("Same(%s, %s): %v", tell(a), tell(b), i != k)
			}
		}
	}
}

func TestP52LessAndSameOfWrongRows(t *testing.T) {
	others := append(validRows(), wrongRows()...)
	for _, bad := range wrongRows() {
		if row.Same(bad, slices.Clone(bad)) {
			t.Errorf("%s is the same as it is", tell(bad))
		}
		for _, r := range others {
			if row.Less(bad, r) || row.Less(r, bad) {
				t.Fatalf("%s and %s have an order", tell(bad), tell(r))
			}
			if row.Same(bad, r) || row.Same(r, bad) {
				t.Fatalf("%s and %s are the same", tell(bad), tell(r))
			}
		}
	}
}

// A wrong value counts even behind the place that would decide.
func TestP52LessLooksAtEveryValue(t *testing.T) {
	for _, bad := range wrongValues() {
		low, high := api.Row{num(1), bad}, ints(2, 2)
		if row.Less(low, high) || row.Less(ints(0), api.Row{num(1), bad}) || row.Less(ints(1), low) {
			t.Errorf("%s has an order", tell(low))
		}
	}
}

func TestP53PutWrites(t *testing.T) {
	one := "\x01\x01\x00\x00\x00\x00\x00\x00\x00"
	for _, c := range []struct {
		r    api.Row
		want string
	}{
		{ints(1), "\x01" + one},
		{ints(258), "\x01\x01\x02\x01\x00\x00\x00\x00\x00\x00"},
		{api.Row{str("ab")}, "\x01\x02\x02\x00ab"},
		{api.Row{str("ab"), num(-1), str("")}, "\x03\x02\x02\x00ab\x01\xff\xff\xff\xff\xff\xff\xff\xff\x02\x00\x00"},
		{ints(1, 1, 1, 1, 1, 1), "\x06" + strings.Repeat(one, 6)},
		// Rows that are not valid are written, too.
		{nil, "\x00"},
		{api.Row{}, "\x00"},
		{ints(1, 1, 1, 1, 1, 1, 1), "\x07" + strings.Repeat(one, 7)},
		{slices.Repeat(ints(1), 255), "\xff" + strings.Repeat(one, 255)},
		{slices.Repeat(ints(1), 256), "\x00" + strings.Repeat(one, 256)},
		{slices.Repeat(ints(1), 258), "\x02" + strings.Repeat(one, 258)},
		{api.Row{{}, {Kind: 3, N: 3, S: "x"}, num(1)}, "\x03\x00\x00\x00\x03\x01\x00x" + one},
		{api.Row{str(longest + "z")}, "\x01\x02\x29\x00" + longest + "z"},
	} {
		if s := put(c.r); s != c.want {
			t.Errorf("Put of %s: %x, not %x", tell(c.r), s, c.want)
		}
	}
}

func TestP53PutWritesValuesAsValueDoes(t *testing.T) {
	for _, r := range append(validRows(), wrongRows()...) {
		w := wire.NewWriter()
		w.Byte(len(r))
		for _, v := range r {
			value.Put(w, v)
		}
		if s := put(r); s != string(w.Done()) {
			t.Errorf("Put of %s: %x", tell(r), s)
		}
	}
}

func TestP53PutGoesOnBehindWhatIsWritten(t *testing.T) {
	w := wire.NewWriter()
	w.Byte(7)
	row.Put(w, api.Row{str("a")})
	row.Put(nil, ints(9))
	row.Put(w, api.Row{str("b"), str("")})
	w.Byte(8)
	if s := string(w.Done()); s != "\x07\x01\x02\x01\x00a\x02\x02\x01\x00b\x02\x00\x00\x08" {
		t.Errorf("%x", s)
	}
}

// gets checks what Get reads from b behind a Byte that is read before, and how the Reader stands then.
func gets(t *testing.T, b string, want api.Row, why api.Errno, at, left int) {
	t.Helper()
	r := wire.NewReader([]byte("\x09" + b))
	r.Byte()
	if got := row.Get(r); !slices.Equal(got, want) {
		t.Errorf("Get of %x: %s, not %s", b, tell(got), tell(want))
	}
	if why != api.OK {
		at++
	}
	if w, a := r.End(); w != why || a != at || r.Left() != left {
		t.Errorf("Get of %x ends with %d at %d, %d left; not with %d at %d, %d left", b, w, a, r.Left(), why, at, left)
	}
}

func TestP53GetReads(t *testing.T) {
	gets(t, "\x01\x01\x02\x01\x00\x00\x00\x00\x00\x00", ints(258), api.OK, 0, 0)
	gets(t, "\x01\x02\x02\x00ab", api.Row{str("ab")}, api.OK, 0, 0)
	gets(t, "\x02\x02\x01\x00b\x02\x00\x00", api.Row{str("b"), str("")}, api.OK, 0, 0)
	gets(t, "\x06"+strings.Repeat("\x01\x01\x00\x00\x00\x00\x00\x00\x00", 6), ints(1, 1, 1, 1, 1, 1), api.OK, 0, 0)
	gets(t, "\x01\x02\x01\x00b\x02\x00\x00", api.Row{str("b")}, api.ErrTail, 5, 3)
	gets(t, "\x01\x02\x01\x00b\x00", api.Row{str("b")}, api.ErrTail, 5, 1)
}

func TestP53GetOfEachNumberOfValues(t *testing.T) {
	for n := range 256 {
		b := string([]byte{byte(n)}) + strings.Repeat("\x02\x00\x00", n)
		if 1 <= n && n <= api.MaxCols {
			gets(t, b, slices.Repeat(api.Row{str("")}, n), api.OK, 0, 0)
			continue
		}
		gets(t, b, nil, api.ErrLong, 0, 0)
		gets(t, b[:1], nil, api.ErrLong, 0, 0)
		gets(t, b+"\x01\x02\x00\x00", nil, api.ErrLong, 0, 0)
	}
}

func TestP53GetOfANumberThatIsWrongAtTheVeryStart(t *testing.T) {
	for _, b := range []string{"\x00", "\x07", "\xff", "\x00\x02\x00\x00"} {
		r := wire.NewReader([]byte(b))
		if got := row.Get(r); len(got) != 0 {
			t.Errorf("Get of %x: %s", b, tell(got))
		}
		if why, at := r.End(); why != api.ErrLong || at != 0 || r.Left() != 0 {
			t.Errorf("Get of %x ends with %d at %d", b, why, at)
		}
	}
}

func TestP53GetOfBytesThatEndTooSoon(t *testing.T) {
	gets(t, "", nil, api.ErrEnd, 0, 0)
	for _, r := range validRows() {
		whole := put(r)
		for n := range whole {
			gets(t, whole[:n], nil, api.ErrEnd, n, 0)
		}
	}
}

func TestP53GetOfAWrongValue(t *testing.T) {
	for n := 1; n <= api.MaxCols; n++ {
		for at := range n {
			head := string([]byte{byte(n)}) + strings.Repeat("\x02\x01\x00x", at)
			tail := strings.Repeat("\x02\x01\x00x", n-at-1)
			for _, kind := range []string{"\x00", "\x03", "\xff"} {
				gets(t, head+kind+"\x00\x00"+tail, nil, api.ErrForm, len(head)+1, 0)
			}
			gets(t, head+"\x02\x29\x00"+longest+"z"+tail, nil, api.ErrLong, len(head)+1, 0)
			gets(t, head+"\x02\xff\xff", nil, api.ErrLong, len(head)+1, 0)
			gets(t, head+"\x02\x28\x00"+longest+tail, append(append(slices.Repeat(api.Row{str("x")}, at), str(longest)), slices.Repeat(api.Row{str("x")}, n-at-1)...), api.OK, 0, 0)
		}
	}
}

func TestP53GetOfAReaderThatHasAnError(t *testing.T) {
	for _, why := range []api.Errno{api.ErrArg, api.ErrLong, api.ErrEnd, api.ErrTail, api.ErrForm, api.ErrFull} {
		for _, head := range []string{"", "\x00", "\x07", put(ints(1)), put(api.Row{str("a"), str("b")})} {
			r := wire.NewReader([]byte("\x05\x05" + head))
			r.Short()
			r.Fail(why)
			if got := row.Get(r); len(got) != 0 {
				t.Errorf("behind error %d: %s", why, tell(got))
			}
			if w, at := r.End(); w != why || at != 2 || r.Left() != 0 {
				t.Errorf("error %d became %d at %d", why, w, at)
			}
		}
	}
}

func TestP53GetAfterItsOwnError(t *testing.T) {
	r := wire.NewReader([]byte(put(ints(1)) + "\x07" + put(ints(2))))
	if got := row.Get(r); !slices.Equal(got, ints(1)) {
		t.Error(tell(got))
	}
	for range 3 {
		if got := row.Get(r); len(got) != 0 {
			t.Error(tell(got))
		}
	}
	if why, at := r.End(); why != api.ErrLong || at != 10 {
		t.Errorf("ends with %d at %d", why, at)
	}
}

func TestP53WithoutAWriterOrReader(t *testing.T) {
	for _, r := range append(validRows(), wrongRows()...) {
		row.Put(nil, r)
	}
	if r := row.Get(nil); len(r) != 0 {
		t.Errorf("Get without a Reader: %s", tell(r))
	}
}

func TestP53WhatPutHasWrittenIsReadByGet(t *testing.T) {
	w := wire.NewWriter()
	all := validRows()
	for _, r := range all {
		row.Put(w, r)
		gets(t, put(r), r, api.OK, 0, 0)
	}
	r := wire.NewReader(w.Done())
	for _, want := range all {
		if got := row.Get(r); !row.Same(got, want) {
			t.Fatalf("%s is read as %s", tell(want), tell(got))
		}
	}
	if why, _ := r.End(); why != api.OK {
		t.Errorf("ends with %d", why)
	}
}

func TestP53WhatGetReadsIsValidAndHasOneEncoding(t *testing.T) {
	x := rand.New(rand.NewSource(53))
	read := 0
	for range 20000 {
		b := []byte(put(randomRow(x)))
		for range x.Intn(3) {
			b[x.Intn(len(b))] = byte(x.Intn(9))
		}
		r := wire.NewReader(b)
		got := row.Get(r)
		if why, _ := r.End(); why != api.OK && why != api.ErrTail {
			if len(got) != 0 {
				t.Fatalf("beside error %d: %s", why, tell(got))
			}
			continue
		}
		read++
		if !row.Right(got) || put(got) != string(b[:len(b)-r.Left()]) {
			t.Fatalf("%x is read as %s", b, tell(got))
		}
	}
	if read < 5000 {
		t.Errorf("only %d rows were read", read)
	}
}

func TestP53RowsThatAreReadShareNothing(t *testing.T) {
	b := []byte(put(api.Row{str("a"), str("b")}) + put(ints(1)))
	r := wire.NewReader(b)
	first := row.Get(r)
	second := row.Get(r)
	clear(b)
	first = append(first[:1], num(8), num(9), num(10))
	if !slices.Equal(second, ints(1)) || first[0] != str("a") {
		t.Errorf("%s, %s", tell(first), tell(second))
	}
}

func TestP54LessIsAStrictOrder(t *testing.T) {
	all := validRows()
	for _, a := range all {
		for _, b := range all {
			forth, back := row.Less(a, b), row.Less(b, a)
			equal := slices.Equal(a, b)
			if forth && back || (forth || back) == equal || row.Same(a, b) != equal {
				t.Fatalf("%s and %s: %v, %v", tell(a), tell(b), forth, back)
			}
			for _, c := range all {
				if forth && row.Less(b, c) && !row.Less(a, c) {
					t.Fatalf("%s, %s, %s", tell(a), tell(b), tell(c))
				}
			}
		}
	}
}

func TestP54SortedByLess(t *testing.T) {
	x := rand.New(rand.NewSource(54))
	for range 50 {
		mixed := slices.Clone(inOrder)
		x.Shuffle(len(mixed), func(i, k int) { mixed[i], mixed[k] = mixed[k], mixed[i] })
		sort.Slice(mixed, func(i, k int) bool { return row.Less(mixed[i], mixed[k]) })
		for i, r := range mixed {
			if !slices.Equal(r, inOrder[i]) {
				t.Fatalf("%s at %d", tell(r), i)
			}
		}
	}
}

func TestArgumentsStayAsTheyAre(t *testing.T) {
	l, r := cols("aI bT cI"), api.Row{num(1), str("x"), num(3)}
	before, kept := slices.Clone(l), slices.Clone(r)
	row.Columns(l[:2])
	row.Find(l[:2], "c")
	row.Fits(l[:2], r[:2])
	row.Right(r[:2])
	row.Less(r[:2], r[:1])
	row.Same(r[:2], r)
	put(r[:2])
	if !slices.Equal(l, before) || !slices.Equal(r, kept) {
		t.Errorf("%v, %s", l, tell(r))
	}
	if row.Same(r[:2], r) || !row.Less(r[:2], r) || row.Fits(l[:2], r) || !row.Fits(l[:2], r[:2]) {
		t.Error("the spare capacity was read")
	}
}

func TestExamples(t *testing.T) {
	if !row.Less(ints(1), ints(1, 2)) {
		t.Error("Less([1], [1 2])")
	}
	if row.Less(ints(2), ints(1, 2)) {
		t.Error("Less([2], [1 2])")
	}
	if row.Fits(cols("aI"), api.Row{str("x")}) {
		t.Error(`Fits([a Int], ["x"])`)
	}
	if row.Name("table") {
		t.Error("Name(table)")
	}
	if row.Columns(nil) != api.ErrCount {
		t.Error("Columns of an empty list")
	}
	if row.Right(nil) || row.Right(api.Row{}) {
		t.Error("Right of an empty row")
	}
}
