package batch_test

import (
	"cmp"
	"fmt"
	"reflect"
	"slices"
	"strings"
	"testing"

	"confluence/api"
	"confluence/batch"
	"confluence/eval"
)

// room returns a list with room behind it with something in it.
func room[T any](l []T, spare T) []T {
	n := len(l)
	return append(slices.Clone(l), spare, spare, spare)[:n]
}

// whole tells everything of some values, their lists as far as they have room.
func whole(values ...any) string {
	var b strings.Builder
	var walk func(v reflect.Value)
	walk = func(v reflect.Value) {
		switch v.Kind() {
		case reflect.Slice:
			fmt.Fprint(&b, "[", v.Len(), ":")
			v = v.Slice(0, v.Cap())
			for i := range v.Len() {
				walk(v.Index(i))
			}
			fmt.Fprint(&b, "]")
		case reflect.Struct:
			for i := range v.NumField() {
				walk(v.Field(i))
			}
		default:
			fmt.Fprintf(&b, "%v ", v)
		}
	}
	for _, v := range values {
		walk(reflect.ValueOf(v))
	}
	return b.String()
}

// span is the memory of a list, with its room.
type span struct{ from, to uintptr }

// spans returns the memory of every list in v.
func spans(v reflect.Value) []span {
	var all []span
	switch v.Kind() {
	case reflect.Struct:
		for i := range v.NumField() {
			all = append(all, spans(v.Field(i))...)
		}
	case reflect.Slice:
		if v.Cap() > 0 {
			all = append(all, span{v.Pointer(), v.Pointer() + uintptr(v.Cap())*v.Type().Elem().Size()})
		}
		for i := range v.Len() {
			all = append(all, spans(v.Index(i))...)
		}
	}
	return all
}

// apart reports whether no two lists of some values share memory.
func apart(values ...any) bool {
	var all []span
	for _, v := range values {
		all = append(all, spans(reflect.ValueOf(v))...)
	}
	slices.SortFunc(all, func(a, b span) int { return cmp.Compare(a.from, b.from) })
	for i := 1; i < len(all); i++ {
		if all[i].from < all[i-1].to {
			return false
		}
	}
	return true
}

// spoil overwrites all lists of some values, with their room.
func spoil(values ...any) {
	var walk func(v reflect.Value)
	walk = func(v reflect.Value) {
		switch v.Kind() {
		case reflect.Slice:
			v = v.Slice(0, v.Cap())
			for i := range v.Len() {
				walk(v.Index(i))
			}
		case reflect.Struct:
			for i := range v.NumField() {
				walk(v.Field(i))
			}
		case reflect.String:
			v.SetString("turned")
		case reflect.Int, reflect.Int64:
			v.SetInt(77)
		case reflect.Complex128:
			v.SetComplex(77)
		case reflect.Uint8:
			v.SetUint(77)
		}
	}
	for _, v := range values {
		walk(reflect.ValueOf(v))
	}
}

// roomy gives every list of tables room behind it with something in it.
func roomy(l []eval.Table) []eval.Table {
	for i := range l {
		for k := range l[i].Rows {
			l[i].Rows[k].Row = room(l[i].Rows[k].Row, num(88))
		}
		l[i].Cols = room(l[i].Cols, api.Col{Name: "spare", Kind: api.Int})
		l[i].Rows = room(l[i].Rows, item("88"))
	}
	return room(l, table("spare(a Int) 88"))
}

// roomyChanges gives every list of changes room behind it.
func roomyChanges(c []api.Change) []api.Change {
	for i := range c {
		c[i].Row = room(c[i].Row, num(88))
	}
	return room(c, changes("+spare 88")[0])
}

// calls are tables and changes of them, some of which can't be applied.
func calls() [][2]string {
	var l [][2]string
	for _, x := range good {
		l = append(l, [2]string{x.tables, x.changes})
	}
	for _, x := range inOrder {
		l = append(l, [2]string{x.tables, x.changes})
	}
	for _, x := range refused {
		l = append(l, [2]string{x.tables, x.change})
	}
	return append(l, [2]string{two, ""}, [2]string{two, many("+u 1", 9)}, [2]string{two, "+u 1; -u 9; +u 2"}, [2]string{"t(a Int) 2; 1", "+t 1"}, [2]string{"", "+t 1"})
}

// TestR2 holds Apply to R2: what is handed in isn't turned, nor what it has room for, nor is it kept, and what is answered is new memory.
func TestR2(t *testing.T) {
	for _, x := range calls() {
		l, c := roomy(tables(x[0])), roomyChanges(changes(x[1]))
		before := whole(l, c)
		want := told(batch.Apply(tables(x[0]), changes(x[1])))
		after, turned, why, at := batch.Apply(l, c)
		again, turnedAgain, _, _ := batch.Apply(l, c)
		if whole(l, c) != before {
			t.Errorf("R2: %s of %s has turned what was handed in", x[1], x[0])
		}
		if got := told(after, turned, why, at); got != want {
			t.Errorf("R5: %s of %s: %s with room behind, %s without", x[1], x[0], got, want)
		}
		if !apart(l, c, after, turned, again, turnedAgain) {
			t.Errorf("R2: results of %s of %s share memory", x[1], x[0])
		}
		spoil(l, c, again, turnedAgain)
		if got := told(after, turned, why, at); got != want {
			t.Errorf("R2: what became of the arguments has changed %s to %s", want, got)
		}
	}
}

// TestR2Shared has one row stand in several places of what is handed in: no two lists of the results share memory.
func TestR2Shared(t *testing.T) {
	r := api.Row{num(1)}
	cols := table("t(a Int)").Cols
	rows := api.Set{{Row: r, T: 1}}
	l := []eval.Table{{Name: "t", Cols: cols, Rows: rows}, {Name: "u", Cols: cols, Rows: rows}, {Name: "w", Cols: cols, Rows: rows}}
	c := []api.Change{{Table: "t", Row: r}, {Table: "u", Row: r, Remove: true}, {Table: "u", Row: r}, {Table: "t", Row: r}, {Table: "u", Row: r}}
	after, turned, why, _ := batch.Apply(l, c)
	if why != api.OK || !apart(after, turned) || !apart(l[0], after, turned) {
		t.Errorf("R2: results share memory: %s", showErr(why))
	}
	spoil(l, c)
	if got := told(after, turned, why, 0); got != "t(a Int) 1 *3 | u(a Int) 1 *2 | w(a Int) 1 => t: 1 *2 | u: 1" {
		t.Errorf("R2: %s", got)
	}
}

// TestR3 has nothing stand beside an error: neither tables nor Deltas, be they in a list's room.
func TestR3(t *testing.T) {
	for _, x := range calls() {
		after, turned, why, at := batch.Apply(tables(x[0]), changes(x[1]))
		if why != api.OK && (len(after) > 0 || len(turned) > 0) || why == api.OK && at != 0 {
			t.Errorf("R3: %s of %s: %s", x[1], x[0], told(after, turned, why, at))
		}
	}
}
