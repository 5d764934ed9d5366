package index_test

import (
	"fmt"
	"math"
	"slices"
	"testing"

	"confluence/api"
	"confluence/index"
	"confluence/tally"
	"confluence/value"
	"confluence/zset"
)

// by returns an index by these positions with these rows.
func by(t *testing.T, at []int, l ...api.Item) *index.Index {
	t.Helper()
	x, why := index.New(at)
	if why != api.OK || x == nil {
		t.Fatalf("P12.1: New(%v): %d", at, why)
	}
	s, _ := zset.Make(l)
	changes(t, x, s, api.OK)
	return x
}

// changes checks what Change answers.
func changes(t *testing.T, x *index.Index, s api.Set, want api.Errno) {
	t.Helper()
	if why := x.Change(s); why != want {
		t.Errorf("P12.1: Change(%s): %d, not %d", tell(s), why, want)
	}
}

// finds checks what Find answers.
func finds(t *testing.T, x *index.Index, key api.Row, want ...api.Item) {
	t.Helper()
	if got := x.Find(key); !equal(got, want) {
		t.Errorf("P12.1: Find(%s): %s, not %s", told(key), tell(got), tell(want))
	}
}

// hasKeys checks what Keys answers.
func hasKeys(t *testing.T, x *index.Index, want ...api.Row) {
	t.Helper()
	if got := x.Keys(); !slices.EqualFunc(got, want, func(a, b api.Row) bool { return slices.Equal(a, b) }) {
		t.Errorf("P12.1: Keys: %s, not %s", told(got), told(want))
	}
}

// has checks what All answers.
func has(t *testing.T, x *index.Index, want ...api.Item) {
	t.Helper()
	if got := x.All(); !equal(got, want) {
		t.Errorf("P12.1: All: %s, not %s", tell(got), tell(want))
	}
}

func TestP121New(t *testing.T) {
	for _, at := range positions {
		x := by(t, at)
		has(t, x)
		hasKeys(t, x)
	}
	for i := range api.MaxCols {
		by(t, []int{i})
		by(t, []int{i, i})
	}
}

func TestP121NewOfWrongPositions(t *testing.T) {
	wrong := [][]int{nil, {}, make([]int, 0, 3), {0, 1, 2, 3, 4, 5, 0}, make([]int, api.MaxCols+1), make([]int, 256), make([]int, 257)}
	for _, bad := range []int{-1, -2, api.MaxCols, api.MaxCols + 1, 255, 256, 257, math.MaxInt, math.MinInt} {
		for n := 1; n <= api.MaxCols+1; n++ {
			for at := range n {
				l := make([]int, n)
				l[at] = bad
				wrong = append(wrong, l)
			}
		}
	}
	for _, l := range wrong {
		if x, why := index.New(l); why != api.ErrArg || x != nil {
			t.Errorf("P12.1: New(%v): %v, %d", l, x, why)
		}
	}
}

// rowsOf are three rows in order of which the first two share the value at position 1, with some Nets.
func rowsOf(a, b, c int64) api.Set {
	return api.Set{it(a, 1, 5), it(b, 2, 5), it(c, 3, 6)}
}

func TestP121ChangeAddsRows(t *testing.T) {
	x := by(t, []int{1})
	changes(t, x, rowsOf(1, 2, 3), api.OK)
	has(t, x, rowsOf(1, 2, 3)...)
	changes(t, x, nil, api.OK)
	changes(t, x, api.Set{}, api.OK)
	has(t, x, rowsOf(1, 2, 3)...)
	changes(t, x, rowsOf(10, -1, -5), api.OK)
	has(t, x, rowsOf(11, 1, -2)...)
	finds(t, x, of(5), rowsOf(11, 1, -2)[:2]...)
	finds(t, x, of(6), it(-2, 3, 6))
	changes(t, x, api.Set{it(1, 0, 5), it(1, 1, 4), it(1, 1, 5, 0), it(1, 9, 9)}, api.OK)
	has(t, x, it(1, 0, 5), it(1, 1, 4), it(11, 1, 5), it(1, 1, 5, 0), it(1, 2, 5), it(-2, 3, 6), it(1, 9, 9))
	finds(t, x, of(5), it(1, 0, 5), it(11, 1, 5), it(1, 1, 5, 0), it(1, 2, 5))
	hasKeys(t, x, of(4), of(5), of(6), of(9))
}

// wrongSets are sets of rows of at least two values that are not valid, each by one fault.
func wrongSets() []api.Set {
	all := []api.Set{
		{it(1, 2, 5), it(1, 1, 5)},
		{it(1, 1, 5), it(1, 1, 5)},
		{it(1, 1, 5), it(-1, 1, 5)},
		{it(1, 1, 5, 0), it(1, 1, 5)},
		{it(1, "a", 5), it(1, 1, 5)},
		{it(1, 1, 5), it(1, 2, 5), it(1, 3, 5), it(1, 3, 5)},
	}
	for _, r := range []api.Row{nil, {}, of(1, 2, 3, 4, 5, 6, 7), {value.Num(2), {}}, {{}, value.Num(2)}, {value.Num(2), {Kind: 3}}, {value.Num(2), {Kind: api.Int, N: 5, S: "x"}}, {value.Num(2), {Kind: api.Text, N: 5}}, of(2, longest+"z")} {
		all = append(all, api.Set{{Row: r, T: 1}}, api.Set{it(1, 1, 5), {Row: r, T: 1}, it(1, 3, 5)})
	}
	for _, c := range []complex128{0, 1 + 1i, 2 + 1i, 1 + 2i, -1, -1i, 0.5, 0.5i, far + 1, (far + 1) * 1i, complex(math.NaN(), 0), complex(0, math.Inf(1))} {
		all = append(all, api.Set{{Row: of(2, 5), T: c}}, api.Set{it(1, 1, 5), {Row: of(2, 5), T: c}, it(1, 3, 5)})
	}
	return all
}

func TestP121ChangeOfWrongSets(t *testing.T) {
	for _, at := range [][]int{{0}, {1}, {1, 0}} {
		for _, s := range wrongSets() {
			changes(t, by(t, at), s, api.ErrArg)
			x := by(t, at, rowsOf(1, 2, 3)...)
			changes(t, x, s, api.ErrArg)
			has(t, x, rowsOf(1, 2, 3)...)
		}
	}
}

func TestP121ChangeOfRowsWithoutAKey(t *testing.T) {
	long := it(1, 1, 2, 3, 4, 5, 6)
	for _, c := range []struct {
		at   []int
		most int // values of a row that lacks one
	}{{[]int{1}, 1}, {[]int{5}, 5}, {[]int{2, 0}, 2}, {[]int{0, 3}, 3}, {[]int{0, 4, 1}, 4}, {[]int{5, 4, 3, 2, 1, 0}, 5}} {
		for n := 1; n <= api.MaxCols; n++ {
			short := api.Item{Row: long.Row[:n], T: 1}
			want := api.OK
			if n <= c.most {
				want = api.ErrArg
			}
			x := by(t, c.at)
			changes(t, x, api.Set{short}, want)
			for _, s := range [][]api.Item{{it(1, 0, 2, 3, 4, 5, 6), short}, {short, it(1, 2, 2, 3, 4, 5, 6)}, {it(1, 0, 2, 3, 4, 5, 6), short, it(1, 2, 2, 3, 4, 5, 6)}} {
				x := by(t, c.at, it(4, 1, 1, 1, 1, 1, 1))
				changes(t, x, s, want)
				if want != api.OK {
					has(t, x, it(4, 1, 1, 1, 1, 1, 1))
					hasKeys(t, x, of(1, 1, 1, 1, 1, 1)[:len(c.at)])
				}
			}
		}
	}
}

func TestP121ChangeBeyondTheGreatestNets(t *testing.T) {
	for _, at := range [][]int{{0}, {1}, {1, 0}} {
		for _, c := range []struct {
			was, more int64
			want      api.Errno
		}{
			{far, 1, api.ErrRange},
			{far - 1, 2, api.ErrRange},
			{1, far, api.ErrRange},
			{far, far, api.ErrRange},
			{-far, -1, api.ErrRange},
			{-1, -far, api.ErrRange},
			{-far, -far, api.ErrRange},
			{far - 1, 1, api.OK},
			{1 - far, -1, api.OK},
			{-far, far, api.OK},
			{far, -1, api.OK},
			{-far, 1, api.OK},
		} {
			for place := range 3 {
				was, more := rowsOf(1, 1, 1), rowsOf(1, 1, 1)
				was[place].T, more[place].T = it(c.was).T, it(c.more).T
				x := by(t, at, was...)
				changes(t, x, more, c.want)
				if c.want != api.OK {
					has(t, x, was...)
				} else {
					sum, _ := zset.Add(was, more)
					has(t, x, sum...)
				}
			}
		}
	}
	// Nets of other rows are not added to it, be they of the same key or not.
	x := by(t, []int{1}, rowsOf(far, far, far)...)
	changes(t, x, api.Set{it(far, 4, 5), it(-far, 5, 5), it(far, 6, 6)}, api.OK)
	has(t, x, it(far, 1, 5), it(far, 2, 5), it(far, 3, 6), it(far, 4, 5), it(-far, 5, 5), it(far, 6, 6))
}

func TestP121ErrArgComesAheadOfErrRange(t *testing.T) {
	x := by(t, []int{1}, rowsOf(far, far, far)...)
	for _, s := range []api.Set{
		{it(1, 1, 5), it(0, 2, 5)},
		{it(1, 1, 5), it(1, 1, 5)},
		{it(1, 1, 5), it(1, 0, 5)},
		{it(1, 1, 5), it(1, 2)},
		{it(1, 0), it(1, 1, 5)},
		{it(1, 1, 5), it(1, "x")},
	} {
		changes(t, x, s, api.ErrArg)
		has(t, x, rowsOf(far, far, far)...)
	}
	changes(t, x, api.Set{it(1, 0, 0), it(1, 1, 5), it(1, 9, 9)}, api.ErrRange)
	has(t, x, rowsOf(far, far, far)...)
	hasKeys(t, x, of(5), of(6))
}

func TestP121RowsOfDifferentLengths(t *testing.T) {
	l := []api.Item{it(1, 1, 2), it(2, 1, 2, 3), it(-3, 1, 2, 3, 4, 5, 6), it(4, 2, 2), it(5, 2, 3, 3)}
	x := by(t, []int{1}, l...)
	has(t, x, l...)
	hasKeys(t, x, of(2), of(3))
	finds(t, x, of(2), l[:4]...)
	finds(t, x, of(3), l[4])
	x = by(t, []int{1, 0}, l...)
	has(t, x, l...)
	hasKeys(t, x, of(2, 1), of(2, 2), of(3, 2))
	finds(t, x, of(2, 1), l[:3]...)
	finds(t, x, of(1, 2))
}

func TestP121RowsThatGo(t *testing.T) {
	x := by(t, []int{1}, rowsOf(2, 1, -3)...)
	// one row of a key, in two steps
	changes(t, x, api.Set{it(-1, 1, 5)}, api.OK)
	finds(t, x, of(5), it(1, 1, 5), it(1, 2, 5))
	changes(t, x, api.Set{it(-1, 1, 5)}, api.OK)
	finds(t, x, of(5), it(1, 2, 5))
	hasKeys(t, x, of(5), of(6))
	has(t, x, it(1, 2, 5), it(-3, 3, 6))
	// the last row of a key
	changes(t, x, api.Set{it(-1, 2, 5)}, api.OK)
	finds(t, x, of(5))
	hasKeys(t, x, of(6))
	has(t, x, it(-3, 3, 6))
	// one that was removed more often than it was added
	changes(t, x, api.Set{it(3, 3, 6)}, api.OK)
	finds(t, x, of(6))
	hasKeys(t, x)
	has(t, x)
	// and one that comes back
	changes(t, x, api.Set{it(1, 2, 5)}, api.OK)
	finds(t, x, of(5), it(1, 2, 5))
	hasKeys(t, x, of(5))
	// all rows of a key at once, and others come
	x = by(t, []int{1}, rowsOf(2, 1, 3)...)
	changes(t, x, api.Set{it(-2, 1, 5), it(1, 1, 6), it(-1, 2, 5), it(-1, 3, 6)}, api.OK)
	hasKeys(t, x, of(6))
	has(t, x, it(1, 1, 6), it(2, 3, 6))
	changes(t, x, zset.Flip(x.All()), api.OK)
	hasKeys(t, x)
	has(t, x)
}

func TestP121Find(t *testing.T) {
	x := by(t, []int{1}, rowsOf(1, 1, 1)...)
	five := rowsOf(1, 1, 1)[:2]
	finds(t, x, of(5), five...)
	for _, key := range []api.Row{
		of(1), of(4), of(7), of("5"), of(""), of(math.MaxInt64),
		nil, {}, of(5, 5), of(5, 6), of(1, 5), of(5, 0), of(2, 5), of(5, 5, 5, 5, 5, 5), of(5, 5, 5, 5, 5, 5, 5), slices.Repeat(of(5), 1000),
		{{}}, {{Kind: 3, N: 5}}, {{N: 5}}, {{Kind: api.Int, N: 5, S: "x"}}, {{Kind: api.Text, N: 5}}, {value.Num(5), {}}, {{}, value.Num(5)}, {{Kind: 257, N: 5}}, {{Kind: -1, N: 5}}, of(longest + "z"),
		make(api.Row, 2), make(api.Row, api.MaxCols), make(api.Row, api.MaxCols+1),
	} {
		finds(t, x, key)
	}
	finds(t, by(t, []int{1}), of(5))
	finds(t, by(t, []int{1}), nil)

	x = by(t, []int{2, 0}, it(1, "a", 0, 1), it(1, "a", 1, 1), it(1, 1, 0, "a"), it(1, "a", 0, 2), it(1, longest, 0, longest))
	finds(t, x, of(1, "a"), it(1, "a", 0, 1), it(1, "a", 1, 1))
	finds(t, x, of("a", 1), it(1, 1, 0, "a"))
	finds(t, x, of(longest, longest), it(1, longest, 0, longest))
	finds(t, x, of(1))
	finds(t, x, of(1, "a", 0))
	finds(t, x, of(2, 1))

	x = by(t, []int{0, 0}, it(1, 1, 2), it(1, 2, 2))
	finds(t, x, of(1, 1), it(1, 1, 2))
	finds(t, x, of(1, 2))
	finds(t, x, of(1))
}

func TestP121KeysInOrder(t *testing.T) {
	// by numbers, not by their digits or bytes, and texts behind all numbers
	var l []api.Item
	want := []api.Row{of(math.MinInt64), of(-256), of(-1), of(0), of(1), of(9), of(10), of(256), of(math.MaxInt64), of(""), of("10"), of("9"), of("a"), of("a\x00"), of("aa"), of("b"), of(longest), of("\xff")}
	for i, key := range want {
		l = append(l, api.Item{Row: append(of(1000-i), key...), T: 1})
	}
	x := by(t, []int{1}, l...)
	for range 20 {
		hasKeys(t, x, want...)
	}
	// in the order of the positions, not of the row
	l = []api.Item{it(1, 1, 3), it(1, 2, 2), it(1, 3, 1), it(1, 3, 2), it(-1, 3, 2, 7)}
	hasKeys(t, by(t, []int{0, 1}, l...), of(1, 3), of(2, 2), of(3, 1), of(3, 2))
	hasKeys(t, by(t, []int{1, 0}, l...), of(1, 3), of(2, 2), of(2, 3), of(3, 1))
	hasKeys(t, by(t, []int{1, 1}, l...), of(1, 1), of(2, 2), of(3, 3))
	hasKeys(t, by(t, []int{0, 0, 1}, l...), of(1, 1, 3), of(2, 2, 2), of(3, 3, 1), of(3, 3, 2))
	l = []api.Item{it(1, 6, 5, 4, 3, 2, 1), it(1, 6, 5, 4, 3, 2, "x"), it(1, 7, 5, 4, 3, 2, 1)}
	hasKeys(t, by(t, []int{5, 4, 3, 2, 1, 0}, l...), of(1, 2, 3, 4, 5, 6), of(1, 2, 3, 4, 5, 7), of("x", 2, 3, 4, 5, 6))
}

// Keys that come and go in any order are told in theirs.
func TestP121KeysOfChangesOneByOne(t *testing.T) {
	x := by(t, []int{1})
	for i := range 300 {
		changes(t, x, api.Set{it(1, i, i*101%300)}, api.OK)
	}
	for i := range 300 {
		if i%3 == 0 {
			changes(t, x, api.Set{it(-1, i, i*101%300)}, api.OK)
		}
	}
	var want []api.Row
	for i := range 300 {
		if i*101%300%3 != 0 {
			want = append(want, of(i*101%300))
		}
	}
	slices.SortFunc(want, compare)
	hasKeys(t, x, want...)
}

func TestNilAndZeroIndexes(t *testing.T) {
	for _, x := range []*index.Index{nil, {}} {
		changes(t, x, rowsOf(1, 1, 1), api.ErrArg)
		changes(t, x, nil, api.ErrArg)
		changes(t, x, api.Set{{}}, api.ErrArg)
		finds(t, x, of(5))
		finds(t, x, nil)
		hasKeys(t, x)
		has(t, x)
		if b := x.Save(); len(b) > 0 {
			t.Errorf("Save: %x", b)
		}
	}
}

// spread returns a copy of s, and of its rows, with spare capacity that holds something.
func spread(s api.Set) api.Set {
	l := make(api.Set, 0, len(s)+3)
	for _, x := range s {
		r := append(append(make(api.Row, 0, len(x.Row)+3), x.Row...), of(7, "spare", 9)...)
		l = append(l, api.Item{Row: r[:len(x.Row)], T: x.T})
	}
	return append(l, it(1, 8, 8), it(1, 9, 9), it(1, "spare", 5))[:len(s)]
}

// whole returns s with all spare capacity.
func whole(s api.Set) string {
	all := ""
	for _, x := range s[:cap(s)] {
		all += told(x.Row[:cap(x.Row)]) + fmt.Sprint(x.T)
	}
	return all
}

func TestArgumentsStayAsTheyAre(t *testing.T) {
	for _, at := range positions {
		given := append(make([]int, 0, len(at)+2), at...)
		before := fmt.Sprint(given[:cap(given)])
		index.New(given)
		if after := fmt.Sprint(given[:cap(given)]); after != before {
			t.Errorf("New turned %s to %s", before, after)
		}
	}
	for _, s := range append(wrongSets(), nil, rowsOf(1, 2, 3), rowsOf(-1, -2, -3), rowsOf(far, -far, far)) {
		x := by(t, []int{1, 0}, rowsOf(1, 2, 3)...)
		given := spread(s)
		rows := slices.Clone(given)
		before := whole(given)
		x.Change(given)
		if after := whole(given); after != before {
			t.Errorf("Change turned %s to %s", before, after)
		}
		for i, item := range rows {
			if &item.Row[:1][0] != &given[i].Row[:1][0] {
				t.Errorf("Change put another row in place of row %d of %s", i, tell(rows))
			}
		}
		for _, item := range given {
			before := fmt.Sprint(item.Row[:cap(item.Row)])
			x.Find(item.Row)
			if after := fmt.Sprint(item.Row[:cap(item.Row)]); after != before {
				t.Errorf("Find turned %s to %s", before, after)
			}
		}
	}
	b := append(by(t, []int{1}, rowsOf(1, 2, 3)...).Save(), 1, 2, 3)
	before := string(b)
	index.Load(b)
	index.Load(b[:len(b)-3])
	if string(b) != before {
		t.Error("Load turned its bytes")
	}
}

func TestSpareCapacityIsNotRead(t *testing.T) {
	x := by(t, []int{1})
	changes(t, x, spread(rowsOf(1, 2, 3)), api.OK)
	has(t, x, rowsOf(1, 2, 3)...)
	finds(t, x, of(5, 6)[:1], rowsOf(1, 2, 3)[:2]...)
	changes(t, x, api.Set{{Row: of(1, 5)[:1], T: 1}}, api.ErrArg)
	if y, why := index.New([]int{0, 9}[:1]); why != api.OK || y == nil {
		t.Errorf("New: %d", why)
	}
	b := append(x.Save(), 1)
	if y, why := index.Load(b[:len(b)-1]); why != api.OK || !equal(y.All(), x.All()) {
		t.Errorf("Load: %d", why)
	}
}

// overwrite fills s and its rows, spare capacity and all, and checks ahead of each row that those before it left it as it was.
func overwrite(t *testing.T, s api.Set) {
	t.Helper()
	want := deep(s)
	for i, x := range s {
		if !slices.Equal(x.Row, want[i].Row) {
			t.Fatalf("R2: row %d became %s", i, told(x.Row))
		}
		for k := range x.Row[:cap(x.Row)] {
			x.Row[:cap(x.Row)][k] = value.Str("gone")
		}
	}
	clear(s[:cap(s)])
}

func TestNoArgumentIsKept(t *testing.T) {
	at := []int{1}
	x, _ := index.New(at)
	at[0] = 0
	given := spread(rowsOf(1, 2, 3))
	changes(t, x, given, api.OK)
	overwrite(t, given)
	more := spread(rowsOf(1, -2, 3))
	changes(t, x, more, api.OK)
	overwrite(t, more)
	key := of(5)
	found := x.Find(key)
	key[0] = value.Num(6)
	if !equal(found, []api.Item{it(2, 1, 5)}) {
		t.Errorf("R2: found %s", tell(found))
	}
	has(t, x, it(2, 1, 5), it(6, 3, 6))
	hasKeys(t, x, of(5), of(6))
	b := x.Save()
	y, _ := index.Load(b)
	clear(b[:cap(b)])
	has(t, y, it(2, 1, 5), it(6, 3, 6))
	hasKeys(t, y, of(5), of(6))
}

func TestAnswersAreNewMemory(t *testing.T) {
	l := []api.Item{it(1, 1, 5), it(2, 1, 5, 2), it(3, 1, 5, 2, 3, 4, 5), it(1, 2, 5), it(1, 3, 6), it(-1, 4, 7)}
	for _, x := range []*index.Index{by(t, []int{1}, l...), loaded(t, by(t, []int{1}, l...))} {
		overwrite(t, x.All())
		overwrite(t, x.Find(of(5)))
		overwrite(t, x.Find(of(6)))
		keys := x.Keys()
		for i, key := range keys {
			if !slices.Equal(key, of(5+i)) {
				t.Fatalf("R2: key %d became %s", i, told(key))
			}
			for k := range key[:cap(key)] {
				key[:cap(key)][k] = value.Str("gone")
			}
		}
		clear(keys[:cap(keys)])
		b := x.Save()
		clear(b[:cap(b)])
		has(t, x, l...)
		hasKeys(t, x, of(5), of(6), of(7))
		finds(t, x, of(5), l[:4]...)
		if y := loaded(t, x); !equal(y.All(), l) {
			t.Errorf("R2: %s", tell(y.All()))
		}
	}
}

// What was answered stays as it is, whatever becomes of the index.
func TestAnswersStayAsTheyAre(t *testing.T) {
	x := by(t, []int{1}, rowsOf(1, 2, 3)...)
	all, found, keys, b := x.All(), x.Find(of(5)), x.Keys(), x.Save()
	changes(t, x, rowsOf(5, -2, -3), api.OK)
	changes(t, x, api.Set{it(1, 0, 0)}, api.OK)
	if !equal(all, rowsOf(1, 2, 3)) || !equal(found, rowsOf(1, 2, 3)[:2]) || !slices.Equal(keys[0], of(5)) || !slices.Equal(keys[1], of(6)) {
		t.Errorf("R2: %s, %s, %s", tell(all), tell(found), told(keys))
	}
	if y, _ := index.Load(b); !equal(y.All(), rowsOf(1, 2, 3)) {
		t.Errorf("R2: %s", tell(y.All()))
	}
}

// Indexes have nothing in common.
func TestIndexesGoTheirOwnWays(t *testing.T) {
	at := []int{1}
	x, y := by(t, at), by(t, at)
	changes(t, x, rowsOf(1, 2, 3), api.OK)
	has(t, y)
	changes(t, y, api.Set{it(1, 0, 0)}, api.OK)
	has(t, x, rowsOf(1, 2, 3)...)
	has(t, y, it(1, 0, 0))
}

func TestExamples(t *testing.T) {
	x := by(t, []int{1})
	for _, s := range rowsOf(1, 1, 1) {
		changes(t, x, api.Set{s}, api.OK)
	}
	finds(t, x, of(5), it(1, 1, 5), it(1, 2, 5))
	changes(t, x, api.Set{it(1, 1, 5, 7)}, api.OK)
	finds(t, x, of(5), it(1, 1, 5), it(1, 1, 5, 7), it(1, 2, 5))
	changes(t, x, api.Set{{Row: of(3, 6), T: tally.Of(0, 1)}}, api.OK)
	finds(t, x, of(6))
	hasKeys(t, x, of(5))
}
