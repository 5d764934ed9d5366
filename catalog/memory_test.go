package catalog_test

import (
	"cmp"
	"fmt"
	"reflect"
	"slices"
	"strings"
	"testing"

	"confluence/api"
	"confluence/catalog"
)

// room returns a list with room behind it with something in it.
func room[T any](l []T, spare T) []T {
	n := len(l)
	return append(slices.Clone(l), spare, spare, spare)[:n]
}

// whole tells everything of some values, their lists as far as they have room.
func whole(values ...any) string {
	var b strings.Builder
	var walk func(v reflect.Value)
	walk = func(v reflect.Value) {
		switch v.Kind() {
		case reflect.Slice:
			fmt.Fprint(&b, "[", v.Len(), ":")
			v = v.Slice(0, v.Cap())
			for i := range v.Len() {
				walk(v.Index(i))
			}
			fmt.Fprint(&b, "]")
		case reflect.Struct:
			for i := range v.NumField() {
				walk(v.Field(i))
			}
		default:
			fmt.Fprintf(&b, "%v ", v)
		}
	}
	for _, v := range values {
		walk(reflect.ValueOf(v))
	}
	return b.String()
}

// span is the memory of a list, with its room.
type span struct{ from, to uintptr }

// spans returns the memory of every list in v.
func spans(v reflect.Value) []span {
	var all []span
	switch v.Kind() {
	case reflect.Struct:
		for i := range v.NumField() {
			all = append(all, spans(v.Field(i))...)
		}
	case reflect.Slice:
		if v.Cap() > 0 {
			all = append(all, span{v.Pointer(), v.Pointer() + uintptr(v.Cap())*v.Type().Elem().Size()})
		}
		for i := range v.Len() {
			all = append(all, spans(v.Index(i))...)
		}
	}
	return all
}

// apart reports whether no two lists of some values share memory.
func apart(values ...any) bool {
	var all []span
	for _, v := range values {
		all = append(all, spans(reflect.ValueOf(v))...)
	}
	slices.SortFunc(all, func(a, b span) int { return cmp.Compare(a.from, b.from) })
	for i := 1; i < len(all); i++ {
		if all[i].from < all[i-1].to {
			return false
		}
	}
	return true
}

// spoil overwrites all lists of some values, with their room.
func spoil(values ...any) {
	var walk func(v reflect.Value)
	walk = func(v reflect.Value) {
		switch v.Kind() {
		case reflect.Slice:
			v = v.Slice(0, v.Cap())
			for i := range v.Len() {
				walk(v.Index(i))
			}
		case reflect.Struct:
			for i := range v.NumField() {
				walk(v.Field(i))
			}
		case reflect.String:
			v.SetString("turned")
		case reflect.Int, reflect.Int64:
			v.SetInt(77)
		case reflect.Uint8:
			v.SetUint(77)
		}
	}
	for _, v := range values {
		walk(reflect.ValueOf(v))
	}
}

// rich is a catalog whose plans have each kind of list.
func rich(t *testing.T) db {
	t.Helper()
	d := common(t)
	d.makeView("a", "(project (x (if a (add a 1) (neg 2))) (y b) (filter (and (lt a 5) (eq b \"x\")) (table t)))", "OK")
	d.makeView("f", "(group (b) (n count) (m sum a) (union (table t) (distinct (table t))))", "OK")
	d.makeView("w", "(join (a) (c) (table t) (table u))", "OK")
	return d
}

// results returns what all queries of a catalog answer.
func results(d db) []any {
	c := d.catalog
	return []any{c.Tables(), c.Views(), c.Users("t"), c.Users("u"), c.Users("x"), c.Save()}
}

// TestR2Arguments holds all calls to R2: what is handed in isn't turned, nor what it has room for, nor is it kept.
func TestR2Arguments(t *testing.T) {
	d := start(t)
	given := room(cols("a Int, b Text"), api.Col{Name: "spare", Kind: api.Text})
	before := whole(given)
	for _, name := range []string{"t", "t", "T", "u"} {
		d.catalog.MakeTable(name, given)
		if whole(given) != before {
			t.Errorf("R2: MakeTable turned %s", whole(given))
		}
	}
	d.makeView("v", "(table t)", "OK")
	was := d.state()
	tables := d.catalog.Tables()
	if !apart(given, tables) {
		t.Error("R2: Tables shares memory with what MakeTable was given")
	}
	spoil(given)
	if d.state() != was || showTables(tables) != "t: a Int, b Text; u: a Int, b Text" {
		t.Errorf("R2: what MakeTable was given is kept: %s", d.state())
	}
	// A list without elements, with room for some.
	d.makeCols("x", cols("a Int")[:0], "ErrCount")
	for _, x := range badCols {
		l := room(cols(x.cols), api.Col{Name: "spare", Kind: api.Int})
		before := whole(l)
		d.makeCols("x", l, x.want)
		if whole(l) != before {
			t.Errorf("R2: MakeTable turned %s", x.cols)
		}
	}
}

// TestR2OneList makes several tables of one list.
func TestR2OneList(t *testing.T) {
	d := start(t)
	l := cols("a Int, b Int, c Int")
	d.makeCols("t", l, "OK")
	d.makeCols("u", l[:2], "OK")
	d.makeCols("w", l[1:], "OK")
	l[1].Name = "z"
	d.makeCols("x", l, "OK")
	d.hasTables("t: a Int, b Int, c Int; u: a Int, b Int; w: b Int, c Int; x: a Int, z Int, c Int")
}

func TestR2Load(t *testing.T) {
	for _, d := range append(some(t), rich(t)) {
		was := d.state()
		b := room(d.catalog.Save(), 99)
		before := whole(b)
		c, why := catalog.Load(b)
		if why != api.OK || whole(b) != before {
			t.Fatalf("R2: Load turned what it was given, or answers %s", showErr(why))
		}
		x := db{t, c}
		all := results(x)
		if !apart(append(all, b)...) {
			t.Error("R2: results share memory with what Load was given")
		}
		spoil(b)
		if x.state() != was {
			t.Errorf("R2: what Load was given is kept: %s", x.state())
		}
		short := room(b[:len(b)-1], 99)
		before = whole(short)
		notLoaded(t, short)
		if whole(short) != before {
			t.Error("R2: Load turned what it was given")
		}
	}
}

// TestR2Results are new memory: nothing that is done to them changes the catalog or another result.
func TestR2Results(t *testing.T) {
	for _, d := range append(some(t), rich(t), rich(t).loaded()) {
		was, saved := d.state(), string(d.catalog.Save())
		one, two := results(d), results(d)
		before := whole(two...)
		if whole(one...) != before {
			t.Errorf("R4: %s, then %s", whole(one...), before)
		}
		if !apart(append(one, two...)...) {
			t.Errorf("R2: results of %s share memory", was)
		}
		spoil(one...)
		if d.state() != was || string(d.catalog.Save()) != saved || whole(two...) != before {
			t.Errorf("R2: what was done to results has changed %s to %s", was, d.state())
		}
		// The plans that are kept are what Users goes by.
		for _, v := range two[1].([]catalog.View) {
			spoil(v.Plan.Exprs, v.Plan.Cols, v.Plan.Left, v.Plan.Right, v.Plan.Aggs, v.Plan.Kids, v.Cols)
		}
		if d.state() != was {
			t.Errorf("R2: what was done to a plan has changed %s to %s", was, d.state())
		}
	}
}

// TestR2Answers has what was answered stay as it is, whatever becomes of the catalog.
func TestR2Answers(t *testing.T) {
	d := rich(t)
	all := results(d)
	before := whole(all...)
	d.dropView("a", "OK")
	d.makeView("b", "(table u)", "OK")
	d.dropView("v", "OK")
	d.makeView("aa", "(table t)", "OK")
	d.dropView("f", "OK")
	d.dropView("w", "OK")
	d.dropView("b", "OK")
	d.dropTable("u", "OK")
	d.makeTable("a: x Int", "OK")
	d.makeTable("b: x Int", "OK")
	d.dropView("aa", "OK")
	d.dropTable("t", "OK")
	d.makeTable("t: y Text", "OK")
	d.makeView("v", "(table t)", "OK")
	if whole(all...) != before {
		t.Error("R2: what was answered has changed")
	}
}
