package model_test

import (
	"slices"
	"strings"
	"testing"

	"confluence/api"
	"confluence/model"
)

// turns are batches of the tables t(a Int, b Text) and u(c Int, d Int), which have no rows at first.
var turns = []string{"", "update +t 1 'x'; +t 1 'x'; +t 2 'y'; +u 1 7; +u 2 8", "update +t 2 'x'; +u 2 9; -u 1 7", "update -t 1 'x'; -t 2 'y'; +t -3 ''; +u -3 -3; +u -3 -3"}

// plans are of each kind, with the rows of the view behind each of the turns.
var plans = []struct {
	plan string
	want [4]string
}{
	{"(table t)", [4]string{"", "1 'x' *2; 2 'y'", "1 'x' *2; 2 'x'; 2 'y'", "-3 ''; 1 'x'; 2 'x'"}},
	{"(table u)", [4]string{"", "1 7; 2 8", "2 8; 2 9", "-3 -3 *2; 2 8; 2 9"}},
	{"(filter (lt a 2) (table t))", [4]string{"", "1 'x' *2", "1 'x' *2", "-3 ''; 1 'x'"}},
	{"(filter (eq b \"x\") (table t))", [4]string{"", "1 'x' *2", "1 'x' *2; 2 'x'", "1 'x'; 2 'x'"}},
	{"(filter 0 (table t))", [4]string{}},
	{"(project (x (add a a)) (table t))", [4]string{"", "2 *2; 4", "2 *2; 4 *2", "-6; 2; 4"}},
	{"(project (x (len b)) (y 5) (table t))", [4]string{"", "1 5 *3", "1 5 *4", "0 5; 1 5 *2"}},
	{"(join (a) (c) (table t) (table u))", [4]string{"", "1 'x' 7 *2; 2 'y' 8", "2 'x' 8; 2 'x' 9; 2 'y' 8; 2 'y' 9", "-3 '' -3 *2; 2 'x' 8; 2 'x' 9"}},
	{"(join (c d) (a e) (table u) (project (a a) (e a) (table t)))", [4]string{"", "", "", "-3 -3 *2"}},
	{"(union (table u) (project (x a) (y 0) (table t)))", [4]string{"", "1 0 *2; 1 7; 2 0; 2 8", "1 0 *2; 2 0 *2; 2 8; 2 9", "-3 -3 *2; -3 0; 1 0; 2 0; 2 8; 2 9"}},
	{"(union (table u) (table u))", [4]string{"", "1 7 *2; 2 8 *2", "2 8 *2; 2 9 *2", "-3 -3 *4; 2 8 *2; 2 9 *2"}},
	{"(distinct (table t))", [4]string{"", "1 'x'; 2 'y'", "1 'x'; 2 'x'; 2 'y'", "-3 ''; 1 'x'; 2 'x'"}},
	{"(distinct (project (b b) (table t)))", [4]string{"", "'x'; 'y'", "'x'; 'y'", "''; 'x'"}},
	{"(group (b) (n count) (s sum a) (table t))", [4]string{"", "'x' 2 2; 'y' 1 2", "'x' 3 4; 'y' 1 2", "'' 1 -3; 'x' 2 3"}},
	{"(group () (m min b) (o max b) (n count) (table t))", [4]string{"", "'x' 'y' 3", "'x' 'y' 4", "'' 'x' 3"}},
	{"(group (c) (o max d) (table u))", [4]string{"", "1 7; 2 8", "2 9", "-3 -3; 2 9"}},
	{"(group (a b) (table t))", [4]string{"", "1 'x'; 2 'y'", "1 'x'; 2 'x'; 2 'y'", "-3 ''; 1 'x'; 2 'x'"}},
	{"(group () (n count) (distinct (join (a) (c) (filter (eq b \"x\") (table t)) (table u))))", [4]string{"", "1", "2", "2"}},
}

// TestP182View makes each view ahead of each of the turns.
func TestP182View(t *testing.T) {
	for _, x := range plans {
		for made := range turns {
			d := start(t, "table t: a Int, b Text", "table u: c Int, d Int", "table w: x Int")
			for i, s := range turns {
				if s != "" {
					d.do(s, "OK")
				}
				if i == made {
					d.do("view v: "+x.plan, "OK")
				}
				got, ok := d.model.View("v")
				if ok != (i >= made) || i >= made && show(got) != x.want[i] || i < made && len(got) > 0 {
					t.Errorf("P18.2: %s, turn %d: %s, %v, want %s", x.plan, i, show(got), ok, x.want[i])
				}
			}
			// A table that the plan does not use changes nothing; a batch that is refused does not either.
			d.do("update +w 5; +w 6", "OK")
			d.do("update +t 5 'z'; +u 1 1; -w 7", "ErrAbsent 2")
			if got, ok := d.model.View("v"); !ok || show(got) != x.want[len(turns)-1] {
				t.Errorf("P18.2: %s: %s, %v", x.plan, show(got), ok)
			}
		}
	}
}

// TestP182Views has as many views as may be use tables that one batch changes, all of them, some or none.
func TestP182Views(t *testing.T) {
	d := start(t, "table t: a Int", "table u: a Int", "table w: a Int",
		"view f: (union (table t) (union (table u) (table w)))", "view e: (table w)", "view d: (union (table u) (table t))",
		"view c: (group () (n count) (table u))", "view b: (table t)", "view a: (join (a) (a) (table t) (table w))")
	d.has("table t | table u | table w | view a | view b | view c | view d | view e | view f")
	d.do("update +t 1; +u 2; +w 3", "OK")
	d.has("table t 1 | table u 2 | table w 3 | view a | view b 1 | view c 1 | view d 1; 2 | view e 3 | view f 1; 2; 3")
	d.do("update +w 1; -w 3; +w 1", "OK")
	d.has("table t 1 | table u 2 | table w 1 *2 | view a 1 *2 | view b 1 | view c 1 | view d 1; 2 | view e 1 *2 | view f 1 *3; 2")
	d.do("update +u 2; -t 1; +u 5", "OK")
	d.has("table t | table u 2 *2; 5 | table w 1 *2 | view a | view b | view c 3 | view d 2 *2; 5 | view e 1 *2 | view f 1 *2; 2 *2; 5")
	d.do("update +t 1; -t 1", "OK")
	d.has("table t | table u 2 *2; 5 | table w 1 *2 | view a | view b | view c 3 | view d 2 *2; 5 | view e 1 *2 | view f 1 *2; 2 *2; 5")
	d.do("update -u 2; -u 2; -u 5; -w 1; -w 1", "OK")
	d.has("table t | table u | table w | view a | view b | view c | view d | view e | view f")
}

// TestP182NoSuchName asks for names of nothing, and for a table by View and a view by Table.
func TestP182NoSuchName(t *testing.T) {
	d := start(t, common...)
	for _, name := range names {
		rows, isTable := d.model.Table(name)
		if isTable != slices.Contains([]string{"t", "u", "c"}, name) || !isTable && len(rows) > 0 {
			t.Errorf("P18.2: Table(%q): %s, %v", name, show(rows), isTable)
		}
		rows, isView := d.model.View(name)
		if isView != slices.Contains([]string{"v", "g"}, name) || !isView && len(rows) > 0 {
			t.Errorf("P18.2: View(%q): %s, %v", name, show(rows), isView)
		}
	}
	for _, name := range []string{"\x00", "ä", "t\x00", strings.Repeat("t", 1<<20), "(table t)"} {
		if s := rowsOf(t, d.model, name); s != "" {
			t.Errorf("P18.2: of %q: %s", cut(name), s)
		}
	}
	d.do("unview v", "OK")
	d.do("drop t", "OK")
	if s := rowsOf(t, d.model, "t") + rowsOf(t, d.model, "v"); s != "" {
		t.Errorf("P18.2: %s was dropped", s)
	}
}

// TestP182Names makes tables and views in each order of their names.
func TestP182Names(t *testing.T) {
	for _, order := range []string{"a ab b", "a b ab", "ab a b", "ab b a", "b a ab", "b ab a"} {
		d := start(t, "table z: a Int")
		for name := range strings.FieldsSeq(order) {
			d.do("table "+name+": a Int", "OK")
			d.do("view v"+name+": (table z)", "OK")
		}
		if got := strings.Join(d.model.Tables(), " ") + "|" + strings.Join(d.model.Views(), " "); got != "a ab b z|va vab vb" {
			t.Errorf("P18.2: %s: %s", order, got)
		}
		d.do("update +b 1; +ab 2; +a 3; +z 4", "OK")
		d.has("table a 3 | table ab 2 | table b 1 | table z 4 | view va 4 | view vab 4 | view vb 4")
		d.do("drop ab", "OK")
		d.do("unview va", "OK")
		d.has("table a 3 | table b 1 | table z 4 | view vab 4 | view vb 4")
	}
}

// TestP182Queries change nothing.
func TestP182Queries(t *testing.T) {
	d := start(t, common...)
	was := d.model.Copy()
	before := state(t, d.model)
	for range 3 {
		for _, name := range names {
			d.model.Table(name)
			d.model.View(name)
		}
		d.model.Tables()
		d.model.Views()
		d.model.Copy()
		d.model.Same(was)
		d.model.Last(0)
	}
	if now := state(t, d.model); now != before || !d.model.Same(was) {
		t.Errorf("P18.2: queries have made %s of %s", now, before)
	}
}

// apartFrom does entries on one of two models that are the same, and holds that the other one does not change.
func apartFrom(t *testing.T, a, b *model.Model, entries []string) {
	t.Helper()
	before := state(t, b)
	d := db{t, a}
	for _, s := range entries {
		d.do(s, "OK")
		if a.Same(b) || b.Same(a) {
			t.Errorf("P18.2: %s: the models are the same", s)
		}
		if now := state(t, b); now != before {
			t.Errorf("P18.2: %s on another one has made %s of %s", s, now, before)
		}
	}
}

func TestP182Copy(t *testing.T) {
	changed := []string{"update +t 1 'x'; -t 2 'y'; +c 5", "unview v", "update -t 1 'x'; -c 5", "drop c", "table a: x Int", "view w: (table t)", "update +a 1", "unview g", "drop u", "unview w", "drop t", "table t: a Text"}
	for _, entries := range [][]string{common, filled()} {
		d := start(t, entries...)
		for _, way := range []string{"the model", "its copy"} {
			a, b := d.model.Copy(), d.model.Copy()
			if a == nil || a == b || !a.Same(b) || !a.Same(d.model) || state(t, a) != state(t, d.model) {
				t.Fatalf("P18.2: a Copy is not as the model")
			}
			if way == "its copy" {
				a = b.Copy()
			} else {
				b = a.Copy()
			}
			if len(entries) == len(common) {
				apartFrom(t, a, b, changed)
			} else {
				apartFrom(t, a, b, changed[:3])
			}
		}
	}
	// A Copy of a new model.
	a := start(t).model
	b := a.Copy()
	if b == nil || !a.Same(b) || state(t, b) != " /  /  / " {
		t.Error("P18.2: a Copy of an empty database is another one")
	}
	apartFrom(t, b, a, common)
	if !start(t).model.Same(a) {
		t.Error("P18.2: a Copy has changed its model")
	}
}

// TestP182CopyRemembers has a Copy answer entries that come again as the model does.
func TestP182CopyRemembers(t *testing.T) {
	d := start(t, common...)
	for i, x := range refused {
		d.send(i%api.MaxClients, 100+i, x.entry, x.want)
	}
	c := db{t, d.model.Copy()}
	for i, x := range refused {
		if i+api.MaxClients >= len(refused) {
			c.send(i%api.MaxClients, 100+i, "kind 0", x.want)
		} else {
			c.send(i%api.MaxClients, 100+i, "kind 0", "ErrPast")
		}
	}
	c.send(3, 1000, "update +c 1", "OK")
	d.send(3, 1000, "update +c 2; -c 1", "ErrAbsent 1")
	d.send(3, 1000, "kind 0", "ErrAbsent 1")
	c.send(3, 1000, "kind 0", "OK")
	d.has(commonRows)
	c.has(strings.Replace(commonRows, "table c", "table c 1", 1))
}

// base is what the models of TestP182Same have in common, and different what makes them differ, done by one client each.
var base = []string{"table t: a Int, b Text", "table u: c Int", "update +t 1 'x'; +u 1", "view v: (table t)"}

var different = [][]string{
	// A row, how often it is there, one of its values, or a Kind of it.
	{"update +t 2 'x'"}, {"update +t 1 'x'"}, {"update +t 1 'y'"}, {"update -t 1 'x'"}, {"update +u 2"}, {"update +u 1"}, {"update -u 1"}, {"update -u 1; +u 2"}, {"update -t 1 'x'; +t 1 ''"},
	{"update -t 1 'x'; +t 2 'x'"}, {"update +t 1 'x'; -u 1"},
	// A table without rows.
	{"table w: a Int"}, {"table x: a Int"}, {"drop u"},
	// A column: its name, its Kind, their number, their order.
	{"table w: b Int"}, {"table w: a Text"}, {"table w: a Int, b Int"}, {"table w: b Int, a Int"}, {"table w: a Int, b Text"}, {"table w: a Text, b Int"},
	// The same rows in a table of other columns.
	{"drop u", "table u: c Int", "update +u 1; +u 1; +u 1"}, {"drop u", "table u: d Int", "update +u 1"}, {"drop u", "table u: c Text"}, {"drop u", "table u: c Int, d Int"},
	// A view: its name and its text, be its rows the same or not.
	{"unview v"}, {"view w: (table t)"}, {"view x: (table t)"}, {"unview v", "view w: (table t)"}, {"unview v", "view v: (union (table t) (filter 0 (table t)))"},
	{"unview v", "view v: (filter 1 (table t))"}, {"unview v", "view v: (filter 2 (table t))"}, {"unview v", "view v: (table u)"}, {"view w: (table u)"},
	{"unview v", "view v: (project (a a) (b b) (table t))"}, {"unview v", "view v: (project (b a) (a b) (table t))"}, {"unview v", "view v: (filter (eq b \"x\") (table t))"}, {"unview v", "view v: (filter (eq b \"y\") (table t))"},
	// A table where another one has a view.
	{"table wa: a Int, b Text"}, {"view wa: (table t)"}, {"view wb: (table t)"},
}

// TestP182Same holds each two of models that differ in one thing apart.
func TestP182Same(t *testing.T) {
	var all []db
	for _, entries := range append(different, nil) {
		d := start(t, base...)
		for _, s := range entries {
			d.do(s, "OK")
		}
		// All have the same last seq with the same reply.
		d.send(0, 100, "kind 0", "ErrForm")
		all = append(all, d)
	}
	for i, a := range all {
		for k, b := range all {
			if a.model.Same(b.model) != (i == k) {
				t.Errorf("P18.2: Same is %v of %d and %d: %s and %s", i != k, i, k, rows(t, a.model), rows(t, b.model))
			}
			if a.model.Same(b.model.Copy()) != (i == k) || a.model.Copy().Same(b.model) != (i == k) {
				t.Errorf("P18.2: Same is %v of copies of %d and %d", i != k, i, k)
			}
		}
		if a.model.Same(nil) {
			t.Errorf("P18.2: a model is the same as none")
		}
	}
}

// TestP182SameSessions holds models apart that differ in nothing but what a client was answered last.
func TestP182SameSessions(t *testing.T) {
	type sent struct {
		client, seq int
		entry, want string
	}
	var all []db
	for _, x := range []sent{
		{0, 4, "view v: (table t)", "OK"}, // again: nothing differs
		{0, 5, "kind 0", "ErrForm"},
		{0, 6, "kind 0", "ErrForm"},
		{0, greatest, "kind 0", "ErrForm"},
		{1, 1, "kind 0", "ErrForm"},
		{1, 2, "kind 0", "ErrForm"},
		{15, 1, "kind 0", "ErrForm"},
		{15, 1, "update ", "ErrArg"},
		{15, 1, "update +u 5; -u 5", "OK"},
		{15, 1, "update +x 1", "ErrName"},
		{15, 1, "update +u 1; +x 1", "ErrName 1"},
		{15, 1, "update +u 1; +u 1; +x 1", "ErrName 2"},
		{15, 1, "view w: (table x)", "ErrName x"},
		{15, 1, "view w: (table y)", "ErrName y"},
		{15, 1, "drop t", "ErrUsed v"},
		{14, 1, "drop t", "ErrUsed v"},
	} {
		d := start(t, base...)
		d.send(x.client, x.seq, x.entry, x.want)
		all = append(all, d)
	}
	for i, a := range all {
		if got := rows(t, a.model); got != rows(t, all[0].model) {
			t.Errorf("%d: %s", i, got)
		}
		for k, b := range all {
			if a.model.Same(b.model) != (i == k) || a.model.Same(b.model.Copy()) != (i == k) {
				t.Errorf("P18.2: Same is %v of %d and %d", i != k, i, k)
			}
		}
	}
	// As soon as the last replies are the same ones, what was answered before is of no account.
	for i, a := range all {
		for client := range api.MaxClients {
			a.model.Do(from(client, greatest, api.Entry{}))
		}
		if !a.model.Same(all[0].model) {
			t.Errorf("P18.2: Same is false of %d behind the same replies", i)
		}
	}
}

// TestP183SameByOtherWays reaches the same database in other ways.
func TestP183SameByOtherWays(t *testing.T) {
	var all []db
	for _, entries := range [][]string{
		base,
		{"table u: c Int", "table t: a Int, b Text", "view v: (table t)", "update +u 1; +t 1 'x'"},
		{"table t: a Int, b Text", "table u: c Int", "view v: ( table\nt ) ", "update +u 1; +u 2", "update +t 3 'y'; -u 2; +t 1 'x'; -t 3 'y'"},
		{"table t: a Text", "table a: a Int", "update +t 'x'; +a 5", "drop t", "table t: a Int, b Text", "drop a", "table u: c Int", "update +u 1", "view v: (table u)", "view a: (table t)", "unview v", "update +t 1 'x'", "view v: (table t)", "unview a"},
		{"table u: c Int", "table t: a Int, b Text", "update +t 1 'x'; +t 1 'x'; +t 1 'x'; +u 7", "update -t 1 'x'; -u 7; -t 1 'x'; +u 1", "view v: (distinct (table t))", "unview v", "view v: (table t)"},
	} {
		d := start(t, entries...)
		d.send(0, 100, "kind 0", "ErrForm")
		d.send(7, 7, "drop t", "ErrUsed v")
		all = append(all, d)
	}
	for i, a := range all {
		a.has("table t 1 'x' | table u 1 | view v 1 'x'")
		for k, b := range all {
			if !a.model.Same(b.model) {
				t.Errorf("P18.3: Same is false of %d and %d", i, k)
			}
		}
	}
}

// TestP183 does the same entries on two models.
func TestP183(t *testing.T) {
	a, b := start(t), start(t)
	for _, x := range good {
		a.do(x.entry, "OK")
		if a.model.Same(b.model) {
			t.Errorf("P18.2: Same, though %s is missing", x.entry)
		}
		b.do(x.entry, "OK")
		if !a.model.Same(b.model) || !b.model.Same(a.model) || !a.model.Same(a.model) {
			t.Errorf("P18.3: behind %s the databases are not the same", x.entry)
		}
	}
	for i, x := range refused {
		a.model.Do(from(i%api.MaxClients, 100+i, entry(x.entry)))
		b.model.Do(from(i%api.MaxClients, 100+i, entry(x.entry)))
		if !a.model.Same(b.model) || state(t, a.model) != state(t, b.model) {
			t.Errorf("P18.3: behind %s the databases are not the same", x.entry)
		}
	}
}

func TestR1NoModel(t *testing.T) {
	var none *model.Model
	for _, s := range append(entries, "table t: a Int") {
		for _, client := range []int{0, 15, -1, 16} {
			if r := none.Do(from(client, 1, entry(s))); r != (api.Reply{Why: api.ErrArg}) {
				t.Errorf("R1: Do of no model: %s", answer(r))
			}
		}
	}
	if got := state(t, none); got != " /  /  / " {
		t.Errorf("R1: no model answers %s", got)
	}
	if none.Copy() != nil || none.Same(nil) || none.Same(model.New()) || none.Last(0) != 0 || none.Last(-1) != 0 || len(none.Tables())+len(none.Views()) > 0 {
		t.Error("R1: no model is something")
	}
}

// TestR1ZeroModel has a model that no call returned end each call.
func TestR1ZeroModel(t *testing.T) {
	zero := &model.Model{}
	for _, s := range entries {
		zero.Do(from(0, 1, entry(s)))
	}
	state(t, zero)
	zero.Copy()
	zero.Same(zero)
	zero.Same(model.New())
	model.New().Same(zero)
}
