package model_test

import (
	"cmp"
	"fmt"
	"reflect"
	"slices"
	"strings"
	"testing"

	"confluence/api"
	"confluence/model"
)

// room returns a list with room behind it with something in it.
func room[T any](l []T, spare T) []T {
	n := len(l)
	return append(slices.Clone(l), spare, spare, spare)[:n]
}

// roomy returns e with room behind its lists.
func roomy(e api.Entry) api.Entry {
	e.Cols = room(e.Cols, api.Col{Name: "spare", Kind: api.Int})
	e.Changes = room(e.Changes, api.Change{Table: "spare", Row: rowOf("88")})
	for i := range e.Changes {
		e.Changes[i].Row = room(e.Changes[i].Row, num(88))
	}
	return e
}

// whole tells everything of some values, their lists as far as they have room.
func whole(values ...any) string {
	var b strings.Builder
	var walk func(v reflect.Value)
	walk = func(v reflect.Value) {
		switch v.Kind() {
		case reflect.Slice:
			fmt.Fprint(&b, "[", v.Len(), ":")
			v = v.Slice(0, v.Cap())
			for i := range v.Len() {
				walk(v.Index(i))
			}
			fmt.Fprint(&b, "]")
		case reflect.Struct:
			for i := range v.NumField() {
				walk(v.Field(i))
			}
		default:
			fmt.Fprintf(&b, "%v ", v)
		}
	}
	for _, v := range values {
		walk(reflect.ValueOf(v))
	}
	return b.String()
}

// span is the memory of a list, with its room.
type span struct{ from, to uintptr }

// spans returns the memory of every list in v.
func spans(v reflect.Value) []span {
	var all []span
	switch v.Kind() {
	case reflect.Struct:
		for i := range v.NumField() {
			all = append(all, spans(v.Field(i))...)
		}
	case reflect.Slice:
		if v.Cap() > 0 {
			all = append(all, span{v.Pointer(), v.Pointer() + uintptr(v.Cap())*v.Type().Elem().Size()})
		}
		for i := range v.Len() {
			all = append(all, spans(v.Index(i))...)
		}
	}
	return all
}

// apart reports whether no two lists of some values share memory.
func apart(values ...any) bool {
	var all []span
	for _, v := range values {
		all = append(all, spans(reflect.ValueOf(v))...)
	}
	slices.SortFunc(all, func(a, b span) int { return cmp.Compare(a.from, b.from) })
	for i := 1; i < len(all); i++ {
		if all[i].from < all[i-1].to {
			return false
		}
	}
	return true
}

// spoil overwrites all lists of some values, with their room.
func spoil(values ...any) {
	var walk func(v reflect.Value)
	walk = func(v reflect.Value) {
		switch v.Kind() {
		case reflect.Slice:
			v = v.Slice(0, v.Cap())
			for i := range v.Len() {
				walk(v.Index(i))
			}
		case reflect.Struct:
			for i := range v.NumField() {
				if f := v.Field(i); f.CanSet() || f.Kind() == reflect.Slice {
					walk(f)
				}
			}
		case reflect.String:
			v.SetString("turned")
		case reflect.Int, reflect.Int64:
			v.SetInt(77)
		case reflect.Bool:
			v.SetBool(!v.Bool())
		case reflect.Complex128:
			v.SetComplex(77)
		}
	}
	for _, v := range values {
		walk(reflect.ValueOf(v))
	}
}

// script is every entry of the tests' tables, one after the other: done, refused, and again.
func script() []api.Entry {
	var l []api.Entry
	add := func(s string) { l = append(l, from(len(l)%3, 1+len(l)/3, entry(s))) }
	for _, s := range common {
		add(s)
	}
	for _, x := range refused {
		add(x.entry)
	}
	for _, s := range entries {
		add(s)
		l = append(l, l[len(l)-1])
	}
	for _, s := range []string{"unview v", "unview w", "unview g", "drop t", "drop u", "drop w"} {
		add(s)
	}
	for _, x := range good {
		add(x.entry)
	}
	return l
}

// TestR2Entries has what is handed in to Do be the same behind it, its room as well, and not be kept.
func TestR2Entries(t *testing.T) {
	plain, other := model.New(), model.New()
	for i, e := range script() {
		want := plain.Do(e)
		handed := roomy(e)
		before := whole(handed)
		if got := other.Do(handed); got != want {
			t.Errorf("R5: %s: %s with room behind its lists, not %s", showEntry(e), answer(got), answer(want))
		}
		if whole(handed) != before {
			t.Errorf("R2: %s has been turned", showEntry(e))
		}
		held := state(t, other)
		spoil(handed)
		if now := state(t, other); now != held || now != state(t, plain) {
			t.Errorf("R2: %d: %s is kept: %s, not %s", i, showEntry(e), now, held)
		}
		if !other.Same(plain) {
			t.Fatalf("R2: %d: %s is kept", i, showEntry(e))
		}
	}
}

// answers returns what the queries of a model answer that has lists.
func answers(m *model.Model) []any {
	l := []any{m.Tables(), m.Views()}
	for _, name := range slices.Concat(m.Tables(), m.Views()) {
		table, _ := m.Table(name)
		view, _ := m.View(name)
		l = append(l, table, view)
	}
	return l
}

// TestR2Results has results be new memory each time: what becomes of them changes neither the model nor other results.
func TestR2Results(t *testing.T) {
	m := model.New()
	for i, e := range script() {
		m.Do(e)
		held, c := state(t, m), m.Copy()
		a, b := answers(m), answers(m)
		if !apart(append(slices.Clone(a), b...)...) || !apart(append(slices.Clone(a), answers(c)...)...) {
			t.Errorf("R2: %d: results share memory", i)
		}
		told := whole(b...)
		spoil(a...)
		if state(t, m) != held || !m.Same(c) {
			t.Errorf("R2: %d: what became of results has changed the model", i)
		}
		if whole(b...) != told {
			t.Errorf("R2: %d: what became of results has changed others", i)
		}
		spoil(answers(c)...)
		if state(t, c) != held || state(t, m) != held {
			t.Errorf("R2: %d: what became of results of a copy has changed it, or the model", i)
		}
	}
}

// TestR2Shared has one list stand in several places of what is handed in, and in entries of several models.
func TestR2Shared(t *testing.T) {
	a, b := model.New(), model.New()
	cols, r := colsOf("a Int"), rowOf("1")
	changes := []api.Change{{Table: "t", Row: r}, {Table: "u", Row: r}, {Table: "u", Row: r}, {Table: "t", Row: r, Remove: true}, {Table: "t", Row: r}}
	for _, m := range []*model.Model{a, b} {
		m.Do(api.Entry{Client: 0, Seq: 1, Kind: api.MakeTable, Name: "t", Cols: cols})
		m.Do(api.Entry{Client: 0, Seq: 2, Kind: api.MakeTable, Name: "u", Cols: cols})
		m.Do(api.Entry{Client: 0, Seq: 3, Kind: api.Update, Changes: changes})
		m.Do(api.Entry{Client: 0, Seq: 4, Kind: api.MakeView, Name: "v", Text: "(union (table t) (table u))"})
	}
	if !apart(append(append(answers(a), answers(b)...), cols, r)...) {
		t.Error("R2: results share memory")
	}
	spoil(changes, cols, r)
	for _, m := range []*model.Model{a, b} {
		if got := rows(t, m); got != "table t 1 | table u 1 *2 | view v 1 *3" {
			t.Errorf("R2: %s", got)
		}
	}
	d := db{t, a}
	d.do("update +t 5; +u 6", "OK")
	d.do("update +t 'x'", "ErrType")
	if got := rows(t, b); got != "table t 1 | table u 1 *2 | view v 1 *3" {
		t.Errorf("R2: %s", got)
	}
}

// TestR3 has false stand beside no rows, and every field of a Reply that means nothing be zero.
func TestR3(t *testing.T) {
	m := model.New()
	for _, e := range script() {
		r := m.Do(e)
		isName := r.Why == api.ErrUsed || r.Why == api.ErrName || r.Why == api.ErrTaken || r.Why == api.ErrType || e.Kind == api.MakeView
		if r.Why == api.OK && r != (api.Reply{}) || r.At != 0 && r.Name != "" || r.Name != "" && !isName {
			t.Errorf("R3: %s: %s", showEntry(e), answer(r))
		}
		for _, name := range names {
			s, isTable := m.Table(name)
			x, isView := m.View(name)
			if isTable && isView || !isTable && len(s) > 0 || !isView && len(x) > 0 {
				t.Errorf("R3: %q: %s, %v, %s, %v", name, show(s), isTable, show(x), isView)
			}
		}
	}
}
