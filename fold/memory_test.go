package fold_test

import (
	"fmt"
	"slices"
	"testing"

	"confluence/api"
	"confluence/fold"
	"confluence/value"
)

// spread returns a copy of s, and of its rows, with spare capacity that holds something.
func spread(s api.Set) api.Set {
	l := make(api.Set, 0, len(s)+3)
	for _, x := range s {
		r := append(append(make(api.Row, 0, len(x.Row)+3), x.Row...), of(7, "spare", 9)...)
		l = append(l, api.Item{Row: r[:len(x.Row)], T: x.T})
	}
	return append(l, it(1, 8, 8), it(1, 9, 9), it(1, "spare", 5))[:len(s)]
}

// whole returns s with all spare capacity.
func whole(s api.Set) string {
	all := ""
	for _, x := range s[:cap(s)] {
		all += told(x.Row[:cap(x.Row)]) + fmt.Sprint(x.T)
	}
	return all
}

func TestArgumentsStayAsTheyAre(t *testing.T) {
	for _, x := range shapes {
		key := append(make([]int, 0, len(x.key)+2), x.key...)
		l := append(make([]fold.Fun, 0, len(x.funs)+2), x.funs...)
		before := fmt.Sprint(key[:cap(key)], l[:cap(l)])
		fold.New(key, l)
		if after := fmt.Sprint(key[:cap(key)], l[:cap(l)]); after != before {
			t.Errorf("New turned %s to %s", before, after)
		}
	}
	for _, s := range append(wrongSets(), nil, rowsOf(1, 2, 3), rowsOf(-1, -2, -3), rowsOf(-1, 5, -3), rowsOf(far, -far, far), rowsOf(1<<9, 1, 1)) {
		for _, x := range []shape{{[]int{1, 0}, funs("count sum0 max1")}, {nil, funs("min0")}, {[]int{1}, nil}} {
			f := x.fold(t)
			f.Change(rowsOf(1, 2, 3))
			given := spread(s)
			rows := slices.Clone(given)
			before := whole(given)
			f.Change(given)
			if after := whole(given); after != before {
				t.Errorf("Change turned %s to %s", before, after)
			}
			for i, item := range rows {
				if &item.Row[:1][0] != &given[i].Row[:1][0] {
					t.Errorf("Change put another row in place of row %d of %s", i, tell(rows))
				}
			}
		}
	}
	b := append(by(t, []int{1}, "count sum0", rowsOf(1, 2, 3)...).Save(), 1, 2, 3)
	before := string(b)
	fold.Load(b)
	fold.Load(b[:len(b)-3])
	if string(b) != before {
		t.Error("Load turned its bytes")
	}
}

func TestSpareCapacityIsNotRead(t *testing.T) {
	f := by(t, []int{1}, "sum0")
	turns(t, f, spread(rowsOf(1, 2, 3)), it(1, 5, 5), it(1, 6, 9))
	holds(t, f, rowsOf(1, 2, 3)...)
	refuses(t, f, api.Set{{Row: of(1, 5)[:1], T: 1}}, api.ErrArg)
	if g, why := fold.New([]int{0, 9}[:1], []fold.Fun{{Name: "count"}, {Name: "none"}}[:1]); why != api.OK || g == nil {
		t.Errorf("New: %d", why)
	}
	isRefused(t, []int{1}[:0], funs("count")[:0])
	b := append(f.Save(), 1)
	if g, why := fold.Load(b[:len(b)-1]); why != api.OK || !equal(g.Input(), f.Input()) {
		t.Errorf("Load: %d", why)
	}
	notLoaded(t, b[:len(b)-2])
}

// overwrite fills s and its rows, spare capacity and all, and checks ahead of each row that those before it left it as it was.
func overwrite(t *testing.T, s api.Set) {
	t.Helper()
	want := deep(s)
	for i, x := range s {
		if !slices.Equal(x.Row, want[i].Row) {
			t.Fatalf("R2: row %d became %s", i, told(x.Row))
		}
		for k := range x.Row[:cap(x.Row)] {
			x.Row[:cap(x.Row)][k] = value.Str("gone")
		}
	}
	clear(s[:cap(s)])
}

func TestNoArgumentIsKept(t *testing.T) {
	key, l := []int{1}, funs("count sum0 max2")
	f, _ := fold.New(key, l)
	key[0], l[1], l[2].Col = 0, fold.Fun{Name: "none"}, 0
	given := spread(set(it(1, 1, 5, "a"), it(2, 2, 5, "b"), it(3, 3, 6, "c")))
	if _, why := f.Change(given); why != api.OK {
		t.Fatal(why)
	}
	overwrite(t, given)
	more := spread(set(it(1, 1, 5, "a"), it(-2, 2, 5, "b"), it(3, 3, 6, "c"), it(1, 0, 7, "d")))
	turned, _ := f.Change(more)
	overwrite(t, more)
	if want := set(it(-1, 5, 3, 5, "b"), it(1, 5, 2, 2, "a"), it(-1, 6, 3, 9, "c"), it(1, 6, 6, 18, "c"), it(1, 7, 1, 0, "d")); !equal(turned, want) {
		t.Errorf("R2: %s", tell(turned))
	}
	holds(t, f, it(1, 0, 7, "d"), it(2, 1, 5, "a"), it(6, 3, 6, "c"))
	has(t, f, it(1, 5, 2, 2, "a"), it(1, 6, 6, 18, "c"), it(1, 7, 1, 0, "d"))
	b := f.Save()
	g, _ := fold.Load(b)
	clear(b[:cap(b)])
	holds(t, g, f.Input()...)
	has(t, g, f.Rows()...)
	alike(t, f, g)
}

func TestAnswersAreNewMemory(t *testing.T) {
	l := []api.Item{it(1, 1, 5), it(2, 1, 5, 2), it(3, 1, 5, 2, 3, 4, 5), it(1, 2, 5), it(1, 3, 6), it(1, 4, 7)}
	rows := []api.Item{it(1, 5, 7, 8, 1), it(1, 6, 1, 3, 3), it(1, 7, 1, 4, 4)}
	f := by(t, []int{1}, "count sum0 min0")
	turned, _ := f.Change(set(l...))
	overwrite(t, turned)
	for _, f := range []*fold.Fold{f, loaded(t, f)} {
		overwrite(t, f.Input())
		overwrite(t, f.Rows())
		b := f.Save()
		clear(b[:cap(b)])
		holds(t, f, l...)
		has(t, f, rows...)
		turned, _ := f.Change(set(it(1, 0, 0), it(1, 1, 6), it(-1, 4, 7)))
		overwrite(t, turned)
		has(t, f, it(1, 0, 1, 0, 0), rows[0], it(1, 6, 2, 4, 1))
		turned, _ = f.Change(set(it(-1, 0, 0), it(-1, 1, 6), it(1, 4, 7)))
		overwrite(t, turned)
		holds(t, f, l...)
		has(t, f, rows...)
		has(t, loaded(t, f), rows...)
	}
}

// What was answered stays as it is, whatever becomes of the fold.
func TestAnswersStayAsTheyAre(t *testing.T) {
	f := by(t, []int{1}, "sum0")
	turned, _ := f.Change(rowsOf(1, 2, 3))
	input, rows, b := f.Input(), f.Rows(), f.Save()
	f.Change(rowsOf(5, -2, -3))
	f.Change(api.Set{it(1, 0, 0)})
	if want := []api.Item{it(1, 5, 5), it(1, 6, 9)}; !equal(input, rowsOf(1, 2, 3)) || !equal(rows, want) || !equal(turned, want) {
		t.Errorf("R2: %s, %s, %s", tell(input), tell(rows), tell(turned))
	}
	if g, _ := fold.Load(b); !equal(g.Input(), rowsOf(1, 2, 3)) {
		t.Errorf("R2: %s", tell(g.Input()))
	}
}

// Folds have nothing in common.
func TestFoldsGoTheirOwnWays(t *testing.T) {
	key, l := []int{1}, funs("count")
	f, _ := fold.New(key, l)
	g, _ := fold.New(key, l)
	turns(t, f, rowsOf(1, 2, 3), it(1, 5, 3), it(1, 6, 3))
	has(t, g)
	holds(t, g)
	turns(t, g, api.Set{it(1, 0, 0)}, it(1, 0, 1))
	has(t, f, it(1, 5, 3), it(1, 6, 3))
	has(t, g, it(1, 0, 1))
}
