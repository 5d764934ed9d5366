package fold_test

import (
	"cmp"
	"fmt"
	"math"
	"math/big"
	"math/rand"
	"slices"
	"strings"
	"testing"

	"confluence/api"
	"confluence/eval"
	"confluence/fold"
	"confluence/tally"
	"confluence/value"
	"confluence/zset"
)

const far = api.MaxPart

var longest = strings.Repeat("z", api.MaxText)

// of returns a row of Ints and Texts.
func of(l ...any) api.Row {
	var r api.Row
	for _, x := range l {
		switch v := x.(type) {
		case int:
			r = append(r, value.Num(int64(v)))
		case int64:
			r = append(r, value.Num(v))
		case string:
			r = append(r, value.Str(v))
		}
	}
	return r
}

// it returns an item of a row with this Net.
func it(net int64, l ...any) api.Item {
	return api.Item{Row: of(l...), T: tally.Of(max(net, 0), max(-net, 0))}
}

// funs returns the functions that a text names, each with the position behind its name; counts have none.
func funs(text string) []fold.Fun {
	var l []fold.Fun
	for _, word := range strings.Fields(text) {
		if word == "count" {
			l = append(l, fold.Fun{Name: word})
			continue
		}
		l = append(l, fold.Fun{Name: word[:3], Col: int(word[3] - '0')})
	}
	return l
}

// equal compares item by item, be they valid or not.
func equal(a, b []api.Item) bool {
	return slices.EqualFunc(a, b, func(x, y api.Item) bool {
		return fmt.Sprint(x.T) == fmt.Sprint(y.T) && slices.Equal(x.Row, y.Row)
	})
}

// deep returns a copy of l that shares nothing with it.
func deep(l []api.Item) []api.Item {
	var c []api.Item
	for _, x := range l {
		c = append(c, api.Item{Row: slices.Clone(x.Row), T: x.T})
	}
	return c
}

// tell returns l in bytes that can be printed.
func tell(l []api.Item) string {
	if len(l) > 12 {
		return fmt.Sprintf("%d items", len(l))
	}
	return told(l)
}

// told returns x in bytes that can be printed.
func told(x any) string { return fmt.Sprintf("%+q", fmt.Sprint(x)) }

// compare puts rows in the order of chapter 5.
func compare(a, b api.Row) int { return slices.CompareFunc(a, b, compareValues) }

func compareValues(x, y api.Value) int {
	return cmp.Or(cmp.Compare(x.Kind, y.Kind), cmp.Compare(x.N, y.N), strings.Compare(x.S, y.S))
}

// slow is a fold by the chapter's words: all rows, grouped from the beginning for every call.
type slow struct {
	key  []int
	funs []fold.Fun
	all  api.Set
}

// fits reports whether a row has what is used.
func (m *slow) fits(r api.Row) bool {
	for _, at := range m.key {
		if at >= len(r) {
			return false
		}
	}
	for _, fun := range m.funs {
		if fun.Name == "count" {
			continue
		}
		if fun.Col >= len(r) || fun.Name == "sum" && r[fun.Col].Kind != api.Int {
			return false
		}
	}
	return true
}

// change returns what Change has to.
func (m *slow) change(s api.Set) (api.Set, api.Errno) {
	if !zset.Right(s) || slices.ContainsFunc(s, func(x api.Item) bool { return !m.fits(x.Row) }) {
		return nil, api.ErrArg
	}
	all, why := zset.Add(m.all, s)
	if why != api.OK || !zset.Plain(all) {
		return nil, api.ErrRange
	}
	if n, ok := zset.Total(all); !ok || n > api.MaxOut {
		return nil, api.ErrRange
	}
	before, _ := m.rows()
	after, ok := (&slow{m.key, m.funs, all}).rows()
	if !ok {
		return nil, api.ErrOver
	}
	m.all = all
	turned, _ := zset.Add(zset.Flip(before), after)
	return turned, api.OK
}

// each returns the rows, as often as they are contained.
func (m *slow) each() []api.Row {
	var l []api.Row
	for _, x := range m.all {
		for range tally.Net(x.T) {
			l = append(l, x.Row)
		}
	}
	return l
}

// rows returns the row of each group, or false if a sum is too great.
func (m *slow) rows() (api.Set, bool) {
	var keys []api.Row
	var groups [][]api.Row
	for _, r := range m.each() {
		var key api.Row
		for _, at := range m.key {
			key = append(key, r[at])
		}
		i := slices.IndexFunc(keys, func(k api.Row) bool { return slices.Equal(k, key) })
		if i < 0 {
			i = len(keys)
			keys, groups = append(keys, key), append(groups, nil)
		}
		groups[i] = append(groups[i], r)
	}
	var s api.Set
	for i, group := range groups {
		r := slices.Clone(keys[i])
		for _, fun := range m.funs {
			v, ok := worth(fun, group)
			if !ok {
				return nil, false
			}
			r = append(r, v)
		}
		s = append(s, api.Item{Row: r, T: 1})
	}
	slices.SortFunc(s, func(a, b api.Item) int { return compare(a.Row, b.Row) })
	return s, true
}

// worth returns what a function makes of the rows of a group.
func worth(fun fold.Fun, group []api.Row) (api.Value, bool) {
	if fun.Name == "count" {
		return value.Num(int64(len(group))), true
	}
	var values []api.Value
	sum := new(big.Int)
	for _, r := range group {
		values = append(values, r[fun.Col])
		sum.Add(sum, big.NewInt(r[fun.Col].N))
	}
	switch fun.Name {
	case "sum":
		if !sum.IsInt64() {
			return api.Value{}, false
		}
		return value.Num(sum.Int64()), true
	case "min":
		return slices.MinFunc(values, compareValues), true
	default:
		return slices.MaxFunc(values, compareValues), true
	}
}

// check holds what f has against m.
func (m *slow) check(t *testing.T, f *fold.Fold) {
	t.Helper()
	if got := f.Input(); !equal(got, m.all) {
		t.Fatalf("P13.1: by %v, %v, Input: %s, not %s", m.key, m.funs, tell(got), tell(m.all))
	}
	rows, _ := m.rows()
	if got := f.Rows(); !equal(got, rows) {
		t.Fatalf("P13.1: by %v, %v, Rows of %s: %s, not %s", m.key, m.funs, tell(m.all), tell(got), tell(rows))
	}
}

// shape is what New gets.
type shape struct {
	key  []int
	funs []fold.Fun
}

// shapes are keys and functions of every kind: alone and together, up to MaxCols of them, some more than once.
var shapes = []shape{
	{[]int{0}, nil},
	{[]int{5}, nil},
	{[]int{1, 0}, nil},
	{[]int{2, 2}, nil},
	{[]int{0, 1, 2, 3, 4, 5}, nil},
	{[]int{5, 4, 3, 2, 1, 0}, nil},
	{nil, funs("count")},
	{nil, funs("sum0")},
	{nil, funs("sum5")},
	{nil, funs("min1")},
	{nil, funs("max0")},
	{nil, funs("count sum0 sum1 min1 max1 count")},
	{nil, funs("count count count count count count")},
	{[]int{0}, funs("count")},
	{[]int{1}, funs("count sum0")},
	{[]int{0}, funs("sum0 max1 min1")},
	{[]int{1, 0}, funs("max2")},
	{[]int{0, 0}, funs("sum1 sum1")},
	{[]int{0}, funs("count sum1 min2 max3 sum4")},
	{[]int{2}, funs("count min0 max0 min1 max1")},
	{[]int{0, 1, 2, 3, 4}, funs("max5")},
	{[]int{0, 1, 2, 3, 4}, funs("count")},
}

// least returns how many values a row must have.
func (x shape) least() int {
	n := 1
	for _, at := range x.key {
		n = max(n, at+1)
	}
	for _, fun := range x.funs {
		if fun.Name != "count" {
			n = max(n, fun.Col+1)
		}
	}
	return n
}

// sums reports whether a sum is made of a position.
func (x shape) sums(at int) bool {
	return slices.Contains(x.funs, fold.Fun{Name: "sum", Col: at})
}

// fold returns an empty one of this shape.
func (x shape) fold(t *testing.T) *fold.Fold {
	t.Helper()
	f, why := fold.New(x.key, x.funs)
	if why != api.OK || f == nil {
		t.Fatalf("P13.1: New(%v, %v): %d", x.key, x.funs, why)
	}
	return f
}

var someValues = []api.Value{value.Num(-1), value.Num(0), value.Num(10), value.Num(9), value.Str(""), value.Str("9"), value.Str("10")}

var someNumbers = []int64{-1, 0, 10, 9, 1 << 32, -1 << 32, math.MaxUint32, math.MaxInt64, math.MinInt64, 1 << 62, -1 << 62}

// someRow returns a row that x can take, of values of which there are few; now and then one has a text for a number.
func someRow(r *rand.Rand, x shape) api.Row {
	least := x.least()
	l := make(api.Row, least+r.Intn(api.MaxCols-least+1))
	for i := range l {
		l[i] = someValues[r.Intn(len(someValues))]
		if x.sums(i) && (l[i].Kind != api.Int || r.Intn(8) == 0) && r.Intn(200) > 0 {
			l[i] = value.Num(someNumbers[r.Intn(len(someNumbers))])
		}
	}
	return l
}

// someSet returns a set of rows.
func someSet(r *rand.Rand, x shape) api.Set {
	var l []api.Item
	for range r.Intn(8) {
		net := []int64{1, 1, 1, 1, 2, 2, 3, 7, 7, -1, 300, far}[r.Intn(12)]
		if net > 7 && r.Intn(4) > 0 {
			net = 1
		}
		l = append(l, api.Item{Row: someRow(r, x), T: tally.Of(max(net, 0), max(-net, 0))})
	}
	s, _ := zset.Make(l)
	return s
}

// spoil returns s with a fault, or mostly with none.
func spoil(r *rand.Rand, s api.Set) api.Set {
	s = deep(s)
	if len(s) == 0 {
		return s
	}
	at := r.Intn(len(s))
	switch r.Intn(60) {
	case 0:
		return append(s, s[at])
	case 1:
		s[at].T = 0
	case 2:
		s[at].T += complex(1, 1)
	case 3:
		s[at].Row = s[at].Row[:r.Intn(len(s[at].Row))]
	case 4:
		s[at].Row[0].Kind = 3
	case 5:
		slices.Reverse(s)
	}
	return s
}

// part returns some of the items of s, or all of them, each as it is or once removed.
func part(r *rand.Rand, s api.Set) api.Set {
	var some api.Set
	least := r.Intn(3)
	for _, x := range s {
		if r.Intn(3) < least {
			continue
		}
		if r.Intn(2) == 0 {
			x.T = tally.Of(0, 1)
		}
		some = append(some, x)
	}
	return some
}

// someChange returns a set that adds to all, or takes from it, or does both.
func someChange(r *rand.Rand, x shape, all api.Set) api.Set {
	s := spoil(r, someSet(r, x))
	switch r.Intn(6) {
	case 0:
		return part(r, zset.Flip(all))
	case 1, 2:
		if both, why := zset.Add(s, part(r, zset.Flip(all))); why == api.OK {
			return both
		}
	}
	return s
}

func TestP132FoldAnswersAsTheSlowOne(t *testing.T) {
	r := rand.New(rand.NewSource(13))
	seen := map[api.Errno]int{}
	for range 40 {
		for _, x := range shapes {
			fast := x.fold(t)
			m := &slow{key: x.key, funs: x.funs}
			var sum api.Set
			for range 12 {
				s := someChange(r, x, m.all)
				before := tell(m.all)
				want, why := m.change(s)
				got, errno := fast.Change(s)
				if errno != why || !equal(got, want) {
					t.Fatalf("P13.2: by %v, %v, Change of %s by %s: %s, %d, not %s, %d", x.key, x.funs, before, tell(s), tell(got), errno, tell(want), why)
				}
				seen[why]++
				m.check(t, fast)
				sum, _ = zset.Add(sum, got)
				if rows := fast.Rows(); !equal(sum, rows) {
					t.Fatalf("P13.4: by %v, %v: the sum of all changes is %s, Rows is %s", x.key, x.funs, tell(sum), tell(rows))
				}
				fast = loaded(t, fast)
			}
		}
	}
	for _, why := range []api.Errno{api.OK, api.ErrArg, api.ErrRange, api.ErrOver} {
		if seen[why] < 100 {
			t.Errorf("only %d times %d", seen[why], why)
		}
	}
}

// loaded returns f, saved and loaded.
func loaded(t *testing.T, f *fold.Fold) *fold.Fold {
	t.Helper()
	g, why := fold.Load(f.Save())
	if why != api.OK || g == nil {
		t.Fatalf("P13.3: Load of %x: %d", f.Save(), why)
	}
	return g
}

var columns = []api.Col{{Name: "a", Kind: api.Int}, {Name: "b", Kind: api.Text}, {Name: "c", Kind: api.Int}, {Name: "d", Kind: api.Text}}

// asPlan returns the Group of a table t of the columns that has this shape. A key that names a column twice is no valid plan.
func asPlan(x shape) api.Plan {
	p := api.Plan{Kind: api.Group, Kids: []api.Plan{{Kind: api.Table, Name: "t"}}}
	for _, at := range x.key {
		p.Left = append(p.Left, columns[at].Name)
	}
	for i, fun := range x.funs {
		agg := api.Agg{Name: "x" + string(rune('a'+i)), Fun: fun.Name}
		if fun.Name != "count" {
			agg.Col = columns[fun.Col].Name
		}
		p.Aggs = append(p.Aggs, agg)
	}
	return p
}

func TestP131RowsAreWhatAGroupGives(t *testing.T) {
	r := rand.New(rand.NewSource(131))
	seen := map[api.Errno]int{}
	for _, x := range []shape{
		{[]int{0}, nil},
		{[]int{3, 1}, nil},
		{[]int{3, 2, 1, 0}, nil},
		{nil, funs("count")},
		{nil, funs("sum0 sum2 min1 max1 min0 max2")},
		{[]int{0}, funs("count sum2 min1 max3")},
		{[]int{1}, funs("sum0 sum0 count")},
		{[]int{2, 1}, funs("max0 min0 sum2")},
		{[]int{0, 1, 2, 3}, funs("count sum0")},
	} {
		for range 60 {
			f := x.fold(t)
			table := eval.Table{Name: "t", Cols: columns}
			for range 8 {
				var l []api.Item
				for range r.Intn(6) {
					number := func() any { return someNumbers[r.Intn(4+r.Intn(len(someNumbers)-3))] }
					text := func() any { return []string{"", "a", "9", "10"}[r.Intn(4)] }
					l = append(l, it(int64(1+r.Intn(3)), number(), text(), number(), text()))
				}
				s, _ := zset.Make(l)
				s, _ = zset.Add(s, part(r, zset.Flip(table.Rows)))
				all, why := zset.Add(table.Rows, s)
				if why != api.OK || !zset.Plain(all) {
					continue
				}
				was := table.Rows
				table.Rows = all
				want, why := eval.Eval(asPlan(x), []eval.Table{table})
				_, got := f.Change(s)
				if got != why {
					t.Fatalf("P13.2: by %v, %v, Change of %s by %s: %d, but eval says %d", x.key, x.funs, tell(was), tell(s), got, why)
				}
				seen[why]++
				if why != api.OK {
					table.Rows = was
					continue
				}
				if got := f.Rows(); !equal(got, want) {
					t.Fatalf("P13.1: by %v, %v, Rows of %s: %s, but eval says %s", x.key, x.funs, tell(all), tell(got), tell(want))
				}
			}
		}
	}
	if seen[api.OK] < 1000 || seen[api.ErrOver] < 100 {
		t.Errorf("seen: %v", seen)
	}
}
