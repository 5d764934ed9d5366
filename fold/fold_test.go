package fold_test

import (
	"math"
	"slices"
	"testing"

	"confluence/api"
	"confluence/fold"
	"confluence/value"
	"confluence/zset"
)

// set returns the set of these items.
func set(l ...api.Item) api.Set {
	s, _ := zset.Make(l)
	return s
}

// by returns a fold of this shape with these rows.
func by(t *testing.T, key []int, names string, l ...api.Item) *fold.Fold {
	t.Helper()
	f := shape{key, funs(names)}.fold(t)
	if _, why := f.Change(set(l...)); why != api.OK {
		t.Fatalf("P13.2: Change(%s): %d", tell(l), why)
	}
	return f
}

// turns checks that Change answers the set of these items.
func turns(t *testing.T, f *fold.Fold, s api.Set, want ...api.Item) {
	t.Helper()
	if got, why := f.Change(s); why != api.OK || !equal(got, set(want...)) {
		t.Errorf("P13.2: Change(%s): %s, %d, not %s", tell(s), tell(got), why, tell(want))
	}
}

// refuses checks that Change answers an error and changes nothing.
func refuses(t *testing.T, f *fold.Fold, s api.Set, want api.Errno) {
	t.Helper()
	input, rows, saved := f.Input(), f.Rows(), string(f.Save())
	if got, why := f.Change(s); why != want || len(got) > 0 {
		t.Errorf("P13.2: Change of %s by %s: %s, %d, not %d", tell(input), tell(s), tell(got), why, want)
	}
	if !equal(f.Input(), input) || !equal(f.Rows(), rows) || string(f.Save()) != saved {
		t.Errorf("P13.2: the refused Change(%s) turned %s to %s", tell(s), tell(input), tell(f.Input()))
	}
}

// has checks what Rows answers.
func has(t *testing.T, f *fold.Fold, want ...api.Item) {
	t.Helper()
	if got := f.Rows(); !equal(got, want) {
		t.Errorf("P13.1: Rows: %s, not %s", tell(got), tell(want))
	}
}

// holds checks what Input answers.
func holds(t *testing.T, f *fold.Fold, want ...api.Item) {
	t.Helper()
	if got := f.Input(); !equal(got, want) {
		t.Errorf("P13.1: Input: %s, not %s", tell(got), tell(want))
	}
}

// many returns n rows, each of its own key at position 0, of value v at position 1.
func many(n int, v any) api.Set {
	var s api.Set
	for i := range n {
		s = append(s, it(1, i, v))
	}
	return s
}

func TestP131New(t *testing.T) {
	for _, x := range shapes {
		f := x.fold(t)
		has(t, f)
		holds(t, f)
	}
	for i := range api.MaxCols {
		shape{[]int{i}, nil}.fold(t)
		shape{[]int{i, i}, nil}.fold(t)
		for _, name := range []string{"count", "sum", "min", "max"} {
			shape{nil, []fold.Fun{{Name: name, Col: i}}}.fold(t)
			shape{[]int{i}, []fold.Fun{{Name: name, Col: i}, {Name: name, Col: i}}}.fold(t)
		}
	}
	// MaxCols together, however they are shared out
	for n := range api.MaxCols + 1 {
		shape{make([]int, n), make([]fold.Fun, api.MaxCols-n)}.counts().fold(t)
	}
}

// counts returns x with counts as its functions.
func (x shape) counts() shape {
	for i := range x.funs {
		x.funs[i].Name = "count"
	}
	return x
}

func TestP131NewOfACountThatHasNoPosition(t *testing.T) {
	for _, at := range []int{-1, api.MaxCols - 1, api.MaxCols, api.MaxCols + 1, 255, 256, math.MaxInt, math.MinInt} {
		x := shape{[]int{1}, []fold.Fun{{Name: "count", Col: at}, {Name: "sum", Col: 0}, {Name: "count", Col: at}}}
		f := x.fold(t)
		turns(t, f, set(it(2, 5, 0), it(1, 6, 0)), it(1, 0, 3, 16, 3))
		has(t, loaded(t, f), it(1, 0, 3, 16, 3))
	}
}

// isRefused checks that New answers nothing.
func isRefused(t *testing.T, key []int, l []fold.Fun) {
	t.Helper()
	if f, why := fold.New(key, l); why != api.ErrArg || f != nil {
		t.Errorf("P13.1: New(%v, %v): %v, %d", key, l, f, why)
	}
}

func TestP131NewOfWrongNumbers(t *testing.T) {
	isRefused(t, nil, nil)
	isRefused(t, []int{}, []fold.Fun{})
	isRefused(t, make([]int, 0, 3), make([]fold.Fun, 0, 3))
	for _, all := range []int{api.MaxCols + 1, api.MaxCols + 2, 2 * api.MaxCols, 256, 257, 262} {
		for _, n := range []int{0, 1, 2, 3, 5, 6, 7, all - 1, all} {
			if n <= all {
				x := shape{make([]int, n), make([]fold.Fun, all-n)}.counts()
				isRefused(t, x.key, x.funs)
			}
		}
	}
}

var noPositions = []int{-1, -2, api.MaxCols, api.MaxCols + 1, 255, 256, 257, math.MaxInt, math.MinInt}

func TestP131NewOfWrongPositions(t *testing.T) {
	for _, bad := range noPositions {
		for n := 1; n <= api.MaxCols; n++ {
			for at := range n {
				key := make([]int, n)
				key[at] = bad
				isRefused(t, key, nil)
				isRefused(t, key, funs("count"))
				for _, name := range []string{"sum", "min", "max"} {
					l := slices.Repeat([]fold.Fun{{Name: name}}, n)
					l[at].Col = bad
					isRefused(t, nil, l)
					isRefused(t, []int{0}, l)
					l = slices.Repeat(funs("count"), n)
					l[at] = fold.Fun{Name: name, Col: bad}
					isRefused(t, nil, l)
				}
			}
		}
	}
}

func TestP131NewOfWrongNames(t *testing.T) {
	for _, bad := range []string{"", "coun", "counts", "Count", "COUNT", "su", "sums", "Sum", "minimum", "mi", "Max", "ma", "max ", " max", "avg", "add", "len", "sum\x00", "\x00", "\xff", "count sum", "group", longest} {
		for n := 1; n <= api.MaxCols; n++ {
			for at := range n {
				l := funs("count sum0 min1 max2 sum3 count")[:n]
				l[at].Name = bad
				isRefused(t, nil, l)
				isRefused(t, []int{0}, l)
			}
		}
	}
}

func TestP131RowsOfEachFunction(t *testing.T) {
	l := []api.Item{it(1, "x", 5), it(3, "x", -7), it(2, "y", 8), it(1, "x", 1)}
	has(t, by(t, []int{0}, "count", l...), it(1, "x", 5), it(1, "y", 2))
	has(t, by(t, []int{0}, "sum1", l...), it(1, "x", -15), it(1, "y", 16))
	has(t, by(t, []int{0}, "min1", l...), it(1, "x", -7), it(1, "y", 8))
	has(t, by(t, []int{0}, "max1", l...), it(1, "x", 5), it(1, "y", 8))
	has(t, by(t, []int{0}, "min0", l...), it(1, "x", "x"), it(1, "y", "y"))
	has(t, by(t, []int{0}, "max1 sum1 count min1 sum1", l...), it(1, "x", 5, -15, 5, -7, -15), it(1, "y", 8, 16, 2, 8, 16))
	// a key alone, in the order of its positions, also one that comes twice
	has(t, by(t, []int{0}, "", l...), it(1, "x"), it(1, "y"))
	has(t, by(t, []int{1, 0}, "", l...), it(1, -7, "x"), it(1, 1, "x"), it(1, 5, "x"), it(1, 8, "y"))
	has(t, by(t, []int{0, 0}, "count", l...), it(1, "x", "x", 5), it(1, "y", "y", 2))
	has(t, by(t, []int{1, 0, 1}, "sum1", l...), it(1, -7, "x", -7, -21), it(1, 1, "x", 1, 1), it(1, 5, "x", 5, 5), it(1, 8, "y", 8, 16))
	// functions alone: all rows are of one group
	has(t, by(t, nil, "count", l...), it(1, 7))
	has(t, by(t, nil, "sum1 min0 max0 min1 max1 count", l...), it(1, 1, "x", "y", -7, 8, 7))
	// no rows, no groups
	has(t, by(t, nil, "count"))
	has(t, by(t, nil, "sum0"))
	has(t, by(t, []int{0}, "count"))
	// all columns
	six := it(4, 1, 2, 3, 4, 5, 6)
	has(t, by(t, []int{0, 1, 2, 3, 4, 5}, "", six), it(1, 1, 2, 3, 4, 5, 6))
	has(t, by(t, []int{5, 3, 1}, "sum4 max2 count", six), it(1, 6, 4, 2, 20, 3, 4))
	for _, f := range []*fold.Fold{by(t, []int{0}, "count", l...), by(t, nil, "count", l...)} {
		holds(t, f, it(3, "x", -7), it(1, "x", 1), it(1, "x", 5), it(2, "y", 8))
	}
}

// Groups are told in the order of their rows: by numbers, not by their digits or bytes, and texts behind all numbers.
func TestP131RowsInOrder(t *testing.T) {
	keys := []api.Row{of(math.MinInt64), of(-256), of(-1), of(0), of(1), of(9), of(10), of(256), of(math.MaxInt64), of(""), of("10"), of("9"), of("a"), of("a\x00"), of("aa"), of("b"), of("\xff")}
	f := by(t, []int{1}, "count sum0")
	var want []api.Item
	for i, key := range keys {
		r := append(of(1000-i), key...)
		if _, why := f.Change(api.Set{{Row: r, T: 2}}); why != api.OK {
			t.Fatal(why)
		}
		want = append(want, api.Item{Row: append(slices.Clone(key), of(2, 2000-2*i)...), T: 1})
	}
	for range 20 {
		has(t, f, want...)
	}
	l := []api.Item{it(1, 1, 3), it(1, 2, 2), it(1, 3, 1)}
	has(t, by(t, []int{1, 0}, "", l...), it(1, 1, 3), it(1, 2, 2), it(1, 3, 1))
	has(t, by(t, []int{0, 1}, "", l...), it(1, 1, 3), it(1, 2, 2), it(1, 3, 1))
	has(t, by(t, []int{0, 1}, "count", append(l, it(1, 1, 2))...), it(1, 1, 2, 1), it(1, 1, 3, 1), it(1, 2, 2, 1), it(1, 3, 1, 1))
}

func TestP131LeastAndGreatest(t *testing.T) {
	for _, c := range []struct {
		values     api.Row
		least, top any
	}{
		{of(5), 5, 5},
		{of("a"), "a", "a"},
		{of(9, 10, -1), -1, 10},
		{of(math.MaxInt64, math.MinInt64, 0), math.MinInt64, math.MaxInt64},
		{of("9", "10", ""), "", "9"},
		{of("a", "aa", "\xff", "Z"), "Z", "\xff"},
		{of("", 5), 5, ""},
		{of("10", 9, "9", 10), 9, "9"},
		{of(math.MaxInt64, "", math.MinInt64), math.MinInt64, ""},
		{of(longest, longest[1:], "y"), "y", longest},
	} {
		var l []api.Item
		for i, v := range c.values {
			l = append(l, api.Item{Row: api.Row{v, value.Num(int64(i % 2))}, T: 2})
		}
		has(t, by(t, nil, "min0 max0 count", l...), it(1, c.least, c.top, 2*len(c.values)))
		// as the values come one by one, and go again
		f := by(t, nil, "max0 min0")
		for _, item := range l {
			f.Change(api.Set{item})
		}
		has(t, f, it(1, c.top, c.least))
		f.Change(zset.Flip(set(l...)))
		has(t, f)
	}
}

func TestP132TheLeastGoes(t *testing.T) {
	f := by(t, []int{0}, "min1 max1", it(1, 1, 3), it(2, 1, 5), it(1, 1, 9), it(1, 2, 4))
	turns(t, f, set(it(-1, 1, 3)), it(-1, 1, 3, 9), it(1, 1, 5, 9))
	// one of several
	turns(t, f, set(it(-1, 1, 5)))
	turns(t, f, set(it(-1, 1, 5)), it(-1, 1, 5, 9), it(1, 1, 9, 9))
	// the last row of a group
	turns(t, f, set(it(-1, 1, 9)), it(-1, 1, 9, 9))
	has(t, f, it(1, 2, 4, 4))
	// the greatest, and one that two rows have
	f = by(t, []int{0}, "max1", it(1, 1, 3, 0), it(1, 1, 9, 0), it(1, 1, 9, 1), it(1, 1, "x"))
	turns(t, f, set(it(-1, 1, "x")), it(1, 1, 9), it(-1, 1, "x"))
	turns(t, f, set(it(-1, 1, 9, 0)))
	turns(t, f, set(it(-1, 1, 9, 1)), it(1, 1, 3), it(-1, 1, 9))
	turns(t, f, set(it(1, 1, 10)), it(-1, 1, 3), it(1, 1, 10))
	turns(t, f, set(it(1, 1, 4), it(-1, 1, 10)), it(1, 1, 4), it(-1, 1, 10))
	has(t, f, it(1, 1, 4))
	holds(t, f, it(1, 1, 3, 0), it(1, 1, 4))
}

func TestP132GroupsComeChangeAndGo(t *testing.T) {
	for _, beside := range []api.Set{nil, set(it(1, 0, 7), it(2, 9, 9))} {
		f := by(t, []int{0}, "count sum1 min1", beside...)
		others := f.Rows()
		both := func(l ...api.Item) []api.Item { return set(slices.Concat(others, l)...) }
		turns(t, f, set(it(1, 1, 5)), it(1, 1, 1, 5, 5))
		has(t, f, both(it(1, 1, 1, 5, 5))...)
		turns(t, f, set(it(2, 1, 0)), it(-1, 1, 1, 5, 5), it(1, 1, 3, 5, 0))
		// one value changes
		turns(t, f, set(it(1, 1, 0)), it(-1, 1, 3, 5, 0), it(1, 1, 4, 5, 0))
		// no value changes
		turns(t, f, set(it(-1, 1, 5), it(-1, 1, 0), it(1, 1, 2), it(1, 1, 3)))
		holds(t, f, set(slices.Concat(beside, set(it(2, 1, 0), it(1, 1, 2), it(1, 1, 3)))...)...)
		has(t, f, both(it(1, 1, 4, 5, 0))...)
		turns(t, f, set(it(-2, 1, 0), it(-1, 1, 2), it(-1, 1, 3)), it(-1, 1, 4, 5, 0))
		has(t, f, others...)
		holds(t, f, beside...)
		turns(t, f, zset.Flip(beside), zset.Flip(others)...)
		has(t, f)
		holds(t, f)
	}
	// many groups at once: one comes, one goes, one changes, one stays
	f := by(t, []int{0}, "count", it(1, 2, 1), it(1, 3, 1), it(1, 4, 1), it(1, 5, 1))
	turns(t, f, set(it(2, 1, 1), it(-1, 2, 1), it(1, 3, 2), it(-1, 4, 1), it(1, 4, 2)), it(1, 1, 2), it(-1, 2, 1), it(-1, 3, 1), it(1, 3, 2))
	has(t, f, it(1, 1, 2), it(1, 3, 2), it(1, 4, 1), it(1, 5, 1))
	holds(t, f, it(2, 1, 1), it(1, 3, 1), it(1, 3, 2), it(1, 4, 2), it(1, 5, 1))
}

func TestP132ChangeInNothing(t *testing.T) {
	f := by(t, []int{0}, "max1", it(1, 1, 5))
	turns(t, f, nil)
	turns(t, f, api.Set{})
	turns(t, f, set(it(1, 1, 5)))
	turns(t, f, set(it(1, 1, 4), it(-1, 1, 5)))
	holds(t, f, it(1, 1, 4), it(1, 1, 5))
	turns(t, f, set(it(-1, 1, 4)))
	// a key alone knows only whether there are rows
	f = by(t, []int{0}, "", it(1, 1, 5))
	turns(t, f, set(it(3, 1, 6)))
	turns(t, f, set(it(-1, 1, 5), it(-2, 1, 6)))
	turns(t, f, set(it(-1, 1, 6)), it(-1, 1))
	holds(t, f)
	for _, x := range shapes {
		turns(t, x.fold(t), nil)
		turns(t, x.fold(t), api.Set{})
	}
}

func TestP132GroupsWithoutAKey(t *testing.T) {
	f := by(t, nil, "count sum0")
	turns(t, f, nil)
	turns(t, f, set(it(1, 5)), it(1, 1, 5))
	turns(t, f, set(it(2, 0), it(-1, 5), it(1, 5, 3)), it(-1, 1, 5), it(1, 3, 5))
	turns(t, f, set(it(-2, 0), it(-1, 5, 3)), it(-1, 3, 5))
	has(t, f)
	holds(t, f)
	turns(t, f, set(it(2, -3), it(1, 7, 7)), it(1, 3, 1))
	has(t, f, it(1, 3, 1))
	f = by(t, nil, "min1 max1", it(1, 0, "b"))
	turns(t, f, set(it(1, 9, "a"), it(1, 9, "c", 1)), it(1, "a", "c"), it(-1, "b", "b"))
}

func TestP132RowsOfDifferentLengths(t *testing.T) {
	l := []api.Item{it(1, 1, 2), it(2, 1, 2, 3), it(3, 1, 2, 3, 4, 5, 6), it(4, 2, 2), it(5, 2, 3, "x")}
	f := by(t, []int{1}, "count sum0", l...)
	holds(t, f, l...)
	has(t, f, it(1, 2, 10, 14), it(1, 3, 5, 10))
	turns(t, f, set(it(-1, 1, 2), it(1, 1, 2, 4)))
	turns(t, f, set(it(-1, 1, 2, 4)), it(1, 2, 9, 13), it(-1, 2, 10, 14))
	holds(t, f, l[1:]...)
	f = by(t, []int{0}, "max1", l...)
	has(t, f, it(1, 1, 2), it(1, 2, 3))
}

func TestP132SumOfARowThatIsContainedManyTimes(t *testing.T) {
	f := by(t, []int{0}, "sum1 count", it(500, 1, 7), it(12, 1, -1))
	has(t, f, it(1, 1, 3488, 512))
	turns(t, f, set(it(-499, 1, 7)), it(1, 1, -5, 13), it(-1, 1, 3488, 512))
	turns(t, f, set(it(-12, 1, -1), it(511, 1, -1<<53)), it(1, 1, 7-511<<53, 512), it(-1, 1, -5, 13))
	f = by(t, nil, "sum0", it(512, 1<<54-1))
	has(t, f, it(1, math.MaxInt64-511))
	turns(t, f, set(it(-1, 1<<54-1), it(1, 1<<54+510)), it(-1, math.MaxInt64-511), it(1, math.MaxInt64))
	has(t, f, it(1, math.MaxInt64))
}

func TestNilAndZeroFolds(t *testing.T) {
	for _, f := range []*fold.Fold{nil, {}} {
		for _, s := range []api.Set{nil, {}, set(it(1, 1, 5)), {{}}} {
			refuses(t, f, s, api.ErrArg)
		}
		has(t, f)
		holds(t, f)
		if b := f.Save(); len(b) > 0 {
			t.Errorf("Save: %x", b)
		}
	}
}

func TestExamples(t *testing.T) {
	f := by(t, []int{0}, "count")
	turns(t, f, api.Set{it(2, 1)}, it(1, 1, 2))
	turns(t, f, api.Set{it(1, 1)}, it(-1, 1, 2), it(1, 1, 3))
	has(t, f, it(1, 1, 3))
	turns(t, f, api.Set{it(-3, 1)}, it(-1, 1, 3))
	has(t, f)
	f = by(t, nil, "min0", it(1, 4), it(1, 6))
	turns(t, f, api.Set{it(-1, 4)}, it(-1, 4), it(1, 6))
}

// take returns the row of f that stands at a place, removed once.
func take(f *fold.Fold, place int) api.Set {
	s := f.Input()
	return set(api.Item{Row: s[place%len(s)].Row, T: it(-1).T})
}

func TestP134SumOfAllChangesIsRows(t *testing.T) {
	f := by(t, []int{0}, "count sum1 min1 max2")
	var sum api.Set
	add := func(s api.Set, want api.Errno) {
		t.Helper()
		turned, why := f.Change(s)
		if why != want {
			t.Fatalf("P13.2: Change(%s): %d, not %d", tell(s), why, want)
		}
		sum, _ = zset.Add(sum, turned)
		if !equal(sum, f.Rows()) {
			t.Fatalf("P13.4: %s, not %s", tell(sum), tell(f.Rows()))
		}
	}
	for i := range 200 {
		add(set(it(1, i*7%5, i*13%11, "a"), it(2, i%3, i, i%7)), api.OK)
		add(set(it(1, i%3, i, i%7), it(1, i%3, "a", i)), api.ErrArg)
		add(take(f, i*17), api.OK)
		add(set(it(1, i%3, i, i%7), it(-1, i%3, 1000, 0)), api.ErrRange)
		add(set(it(1, i%3, i, i%7), it(4, i%4, math.MaxInt64, 0)), api.ErrOver)
		add(take(f, i*5), api.OK)
	}
	add(zset.Flip(f.Input()), api.OK)
	if len(sum) > 0 {
		t.Errorf("P13.4: %s", tell(sum))
	}
}
