package index_test

import (
	"cmp"
	"fmt"
	"math/rand"
	"slices"
	"strings"
	"testing"

	"confluence/api"
	"confluence/index"
	"confluence/tally"
	"confluence/value"
	"confluence/zset"
)

const far = api.MaxPart

var longest = strings.Repeat("z", api.MaxText)

// of returns a row of Ints and Texts.
func of(l ...any) api.Row {
	var r api.Row
	for _, x := range l {
		switch v := x.(type) {
		case int:
			r = append(r, value.Num(int64(v)))
		case int64:
			r = append(r, value.Num(v))
		case string:
			r = append(r, value.Str(v))
		}
	}
	return r
}

// it returns an item of a row with this Net.
func it(net int64, l ...any) api.Item {
	return api.Item{Row: of(l...), T: tally.Of(max(net, 0), max(-net, 0))}
}

// equal compares item by item, be they valid or not.
func equal(a, b []api.Item) bool {
	return slices.EqualFunc(a, b, func(x, y api.Item) bool {
		return fmt.Sprint(x.T) == fmt.Sprint(y.T) && slices.Equal(x.Row, y.Row)
	})
}

// deep returns a copy of l that shares nothing with it.
func deep(l []api.Item) []api.Item {
	var c []api.Item
	for _, x := range l {
		c = append(c, api.Item{Row: slices.Clone(x.Row), T: x.T})
	}
	return c
}

// tell returns l in bytes that can be printed.
func tell(l []api.Item) string {
	if len(l) > 12 {
		return fmt.Sprintf("%d items", len(l))
	}
	return told(l)
}

// told returns x in bytes that can be printed.
func told(x any) string { return fmt.Sprintf("%+q", fmt.Sprint(x)) }

// compare puts rows in the order of chapter 5.
func compare(a, b api.Row) int {
	return slices.CompareFunc(a, b, func(x, y api.Value) int {
		return cmp.Or(cmp.Compare(x.Kind, y.Kind), cmp.Compare(x.N, y.N), strings.Compare(x.S, y.S))
	})
}

// slow is an index by the chapter's words: the set of all rows, gone through for every call.
type slow struct {
	at  []int
	all api.Set
}

// key returns the values of r at the positions, or false if one is missing.
func (m *slow) key(r api.Row) (api.Row, bool) {
	var key api.Row
	for _, at := range m.at {
		if at >= len(r) {
			return nil, false
		}
		key = append(key, r[at])
	}
	return key, true
}

func (m *slow) change(s api.Set) api.Errno {
	if !zset.Right(s) {
		return api.ErrArg
	}
	for _, x := range s {
		if _, ok := m.key(x.Row); !ok {
			return api.ErrArg
		}
	}
	all, why := zset.Add(m.all, s)
	if why != api.OK {
		return api.ErrRange
	}
	m.all = all
	return api.OK
}

func (m *slow) find(key api.Row) api.Set {
	var s api.Set
	for _, x := range m.all {
		if k, _ := m.key(x.Row); slices.Equal(k, key) {
			s = append(s, x)
		}
	}
	return s
}

func (m *slow) keys() []api.Row {
	var l []api.Row
	for _, x := range m.all {
		k, _ := m.key(x.Row)
		l = append(l, k)
	}
	slices.SortFunc(l, compare)
	return slices.CompactFunc(l, func(a, b api.Row) bool { return slices.Equal(a, b) })
}

// check holds what x answers against m: its own keys, and others.
func (m *slow) check(t *testing.T, x *index.Index, others ...api.Row) {
	t.Helper()
	if got := x.All(); !equal(got, m.all) {
		t.Fatalf("P12.1: by %v, All: %s, not %s", m.at, tell(got), tell(m.all))
	}
	keys := m.keys()
	if got := x.Keys(); !slices.EqualFunc(got, keys, func(a, b api.Row) bool { return slices.Equal(a, b) }) {
		t.Fatalf("P12.1: by %v, Keys of %s: %s, not %s", m.at, tell(m.all), told(got), told(keys))
	}
	for _, key := range slices.Concat(keys, others) {
		if got := x.Find(key); !equal(got, m.find(key)) {
			t.Fatalf("P12.1: by %v, Find(%s) in %s: %s", m.at, told(key), tell(m.all), tell(got))
		}
	}
}

// positions are lists of positions of every length: one that rises, one that falls, with a gap, with one that comes twice.
var positions = [][]int{{0}, {1}, {5}, {0, 1}, {1, 0}, {2, 0}, {0, 0}, {1, 1, 0}, {0, 1, 2}, {3, 1, 2, 0}, {2, 2, 2, 2, 2}, {0, 1, 2, 3, 4, 5}, {5, 4, 3, 2, 1, 0}, {0, 0, 0, 0, 0, 0}}

// someRow returns a row of n values of which there are few.
func someRow(x *rand.Rand, n int) api.Row {
	r := make(api.Row, n)
	for i := range r {
		r[i] = []api.Value{value.Num(-1), value.Num(0), value.Num(10), value.Num(9), value.Str(""), value.Str("9"), value.Str("10")}[x.Intn(7)]
	}
	return r
}

// someSet returns a set of rows of at least n values.
func someSet(x *rand.Rand, n int) api.Set {
	var l []api.Item
	for range x.Intn(8) {
		r := someRow(x, n+x.Intn(api.MaxCols-n+1))
		net := []int64{1, -1, 2, -2, 5, far, -far}[x.Intn(7)]
		l = append(l, api.Item{Row: r, T: tally.Of(max(net, 0), max(-net, 0))})
	}
	s, _ := zset.Make(l)
	return s
}

// spoil returns s with a fault, or with none.
func spoil(x *rand.Rand, s api.Set) api.Set {
	s = deep(s)
	if len(s) == 0 {
		return s
	}
	at := x.Intn(len(s))
	switch x.Intn(30) {
	case 0:
		return append(s, s[at])
	case 1:
		s[at].T = 0
	case 2:
		s[at].T += complex(1, 1)
	case 3:
		s[at].Row = s[at].Row[:x.Intn(len(s[at].Row))]
	case 4:
		s[at].Row[0].Kind = 3
	case 5:
		slices.Reverse(s)
	}
	return s
}

// part returns some of the items of s, or all of them.
func part(x *rand.Rand, s api.Set) api.Set {
	var some api.Set
	least := x.Intn(3)
	for _, item := range s {
		if x.Intn(3) >= least {
			some = append(some, item)
		}
	}
	return some
}

func TestP121IndexAnswersAsTheSlowOne(t *testing.T) {
	x := rand.New(rand.NewSource(12))
	seen := map[api.Errno]int{}
	for range 40 {
		for _, at := range positions {
			fast, _ := index.New(at)
			m := &slow{at: at}
			for range 12 {
				s := spoil(x, someSet(x, 1+slices.Max(at)))
				switch x.Intn(8) {
				case 0: // what goes
					s = part(x, zset.Flip(m.all))
				case 1: // what is there once more, if it can be
					s = part(x, m.all)
				}
				want := m.change(s)
				if why := fast.Change(s); why != want {
					t.Fatalf("P12.1: by %v, Change(%s): %d, not %d", at, tell(s), why, want)
				}
				seen[want]++
				m.check(t, fast, someRow(x, len(at)), someRow(x, 1+x.Intn(api.MaxCols)), of())
				fast = loaded(t, fast)
			}
		}
	}
	for _, why := range []api.Errno{api.OK, api.ErrArg, api.ErrRange} {
		if seen[why] < 100 {
			t.Errorf("only %d times %d", seen[why], why)
		}
	}
}

// loaded returns x, saved and loaded.
func loaded(t *testing.T, x *index.Index) *index.Index {
	t.Helper()
	y, why := index.Load(x.Save())
	if why != api.OK || y == nil {
		t.Fatalf("P12.2: Load of %x: %d", x.Save(), why)
	}
	return y
}

func TestP123RowsOfAllKeysAreAll(t *testing.T) {
	x := rand.New(rand.NewSource(123))
	for range 30 {
		for _, at := range positions {
			fast, _ := index.New(at)
			for range 8 {
				fast.Change(someSet(x, 1+slices.Max(at)))
				var items []api.Item
				for _, key := range fast.Keys() {
					found := fast.Find(key)
					if len(found) == 0 || !zset.Right(found) {
						t.Fatalf("P12.3: by %v, Find(%s): %s", at, told(key), tell(found))
					}
					items = append(items, found...)
				}
				// Nothing is added up: a row of two keys would be here twice.
				slices.SortFunc(items, func(a, b api.Item) int { return compare(a.Row, b.Row) })
				if !equal(items, fast.All()) {
					t.Fatalf("P12.3: by %v: %s, not %s", at, tell(items), tell(fast.All()))
				}
			}
		}
	}
}
