package model_test

import (
	"fmt"
	"math"
	"slices"
	"strings"
	"testing"

	"confluence/api"
)

// common are tables and views with rows in them: b has a text, c is empty, and f's numbers are such that the sum of view s is nearly too great.
var common = []string{
	"table t: a Int, b Text", "table u: c Int, d Int", "table c: a Int",
	"update +t 1 'x'; +t 1 'x'; +t 2 'y'; +u 7 8",
	"view v: (table t)", "view g: (group () (n count) (table u))",
}

const commonRows = "table c | table t 1 'x' *2; 2 'y' | table u 7 8 | view g 1 | view v 1 'x' *2; 2 'y'"

func letters(first string, n int) []string {
	var l []string
	for i := range n {
		l = append(l, first+string(rune('a'+i)))
	}
	return l
}

// filled returns what makes common have as many tables and views as may be.
func filled() []string {
	l := slices.Clone(common)
	for _, name := range letters("t", api.MaxTables-3) {
		l = append(l, "table "+name+": a Int")
	}
	for _, name := range letters("v", api.MaxViews-2) {
		l = append(l, "view "+name+": (table u)")
	}
	return l
}

// refused are entries that are refused on the common tables and views, with their Replies.
var refused = []struct{ entry, want string }{
	// A table: each error of catalog.MakeTable, and pairs of them.
	{"table T: a Int", "ErrName"},
	{"table : a Int", "ErrName"},
	{"table sum: a Int", "ErrName"},
	{"table " + longName + "q: a Int", "ErrName"},
	{"table T", "ErrName"},
	{"table t: a Int", "ErrTaken"},
	{"table v: a Int", "ErrTaken"},
	{"table t", "ErrTaken"},
	{"table v: A Int", "ErrTaken"},
	{"table w", "ErrCount"},
	{"table w: a Int, b Int, c Int, d Int, e Int, f Int, g Int", "ErrCount"},
	{"table w: A Int", "ErrName"},
	{"table w: a 0", "ErrName"},
	{"table w: a 3", "ErrName"},
	{"table w: a Int, table Text", "ErrName"},
	{"table w: a Int, b Int, a Text", "ErrTaken"},
	// A table that goes: it is there and not used.
	{"drop w", "ErrName"},
	{"drop v", "ErrName"},
	{"drop T", "ErrName"},
	{"drop ", "ErrName"},
	{"drop t", "ErrUsed v"},
	{"drop u", "ErrUsed g"},
	// A view: each error of catalog.MakeView, with its offset or name.
	{"view T: (table t)", "ErrName"},
	{"view : (table t)", "ErrName"},
	{"view t: (table t)", "ErrTaken"},
	{"view v: (table t)", "ErrTaken"},
	{"view v: ?", "ErrTaken"},
	{"view T: ?", "ErrName"},
	{"view w: ", "ErrEnd"},
	{"view w: (table t", "ErrEnd 8"},
	{"view w: ?", "ErrForm"},
	{"view w: (table T)", "ErrForm 7"},
	{"view w: (table t) (table t)", "ErrTail 10"},
	{"view w: (filter (eq b \"" + longest + "z\") (table t))", "ErrLong 14"},
	{"view w: (table t)" + strings.Repeat(" ", api.MaxPlan), "ErrLong"},
	{"view w: " + strings.Repeat("(distinct ", api.MaxDeep) + "(table t)" + strings.Repeat(")", api.MaxDeep), "ErrDeep 120"},
	{"view w: (filter (add a) (table t))", "ErrCount 8"},
	{"view w: (union (table t) (table sum))", "ErrName 24"},
	{"view w: (union (table t) (table 5))", "ErrForm 17"},
	{"view w: (table x)", "ErrName x"},
	{"view w: (table v)", "ErrName v"},
	{"view w: (table w)", "ErrName w"},
	{"view w: (filter x (table t))", "ErrName"},
	{"view w: (filter b (table t))", "ErrType"},
	{"view w: (project (x a) (x b) (table t))", "ErrTaken x"},
	{"view w: (join (a) (y) (table t) (table u))", "ErrName y"},
	{"view w: (join (b) (c) (table t) (table u))", "ErrType b"},
	{"view w: (union (table t) (table c))", "ErrCount"},
	{"view w: (group (x) (table t))", "ErrName x"},
	{"view w: (group () (n sum b) (table t))", "ErrType b"},
	// Its plan fails on the rows: then it has the name of the view.
	{"view w: (filter (add a 9223372036854775806) (table t))", "ErrOver w"},
	{"view w: (project (x (sub -9223372036854775807 a)) (table t))", "ErrOver w"},
	{"view w: (filter (eq (cat b \"" + longest + "\") \"\") (table t))", "ErrLong w"},
	{"view w: (group () (s sum c) (union (table u) (project (c 9223372036854775807) (d 0) (table u))))", "ErrOver w"},
	{"view w: " + squared(3), "ErrFull w"},
	// A view that goes: it is there.
	{"unview w", "ErrName"},
	{"unview t", "ErrName"},
	{"unview T", "ErrName"},
	{"unview ", "ErrName"},
	// A batch: each error of batch.Apply with the index of its change, and pairs of them.
	{"update ", "ErrArg"},
	{"update " + many("+c 1", 9), "ErrMany"},
	{"update " + many("+x 1", 9), "ErrMany"},
	{"update +x 1", "ErrName"},
	{"update +c 1; -v 1 'x'", "ErrName 1"},
	{"update " + many("+c 1", 7) + "; +T 1", "ErrName 7"},
	{"update +t 1", "ErrType"},
	{"update +c 1; +c 'x'", "ErrType 1"},
	{"update +c 1; +c 2; -c 1 2", "ErrType 2"},
	{"update -c 1", "ErrAbsent"},
	{"update -t 1 'x'; -t 2 'y'; -t 1 'x'; -t 1 'x'", "ErrAbsent 3"},
	{"update +c 1; -c 1; -c 1; +x 1", "ErrAbsent 2"},
}

// squared returns a plan whose number of rows is that of table t, squared n times.
func squared(n int) string {
	s := "(project (x 1) (table t))"
	for range n {
		s = "(join (x) (x) " + s + " " + s + ")"
	}
	return s
}

// many returns the same change n times.
func many(change string, n int) string {
	return strings.TrimSuffix(strings.Repeat(change+"; ", n), "; ")
}

func TestP181Refused(t *testing.T) {
	d := start(t, common...)
	for _, x := range refused {
		d.do(x.entry, x.want)
		d.has(commonRows)
	}
	// Each of them alone, by another client.
	for i, x := range refused {
		d := start(t, common...)
		d.send(5, 3, x.entry, x.want)
		d.has(commonRows)
		d.send(5, 3, x.entry, x.want)
		d.send(5, 2, x.entry, "ErrPast")
		if d.model.Last(5) != 3 || d.model.Last(0) != len(common) {
			t.Errorf("P18.1: %d: the seq of an entry with an error is not used", i)
		}
	}
}

// TestP181RefusedOnTheEmpty has the same entries, as far as they do not ask for a table, on a database without any.
func TestP181RefusedOnTheEmpty(t *testing.T) {
	d := start(t)
	for _, x := range []struct{ entry, want string }{
		{"drop t", "ErrName"}, {"unview v", "ErrName"}, {"view v: (table t)", "ErrName t"}, {"view v: (table", "ErrEnd 6"},
		{"update +t 1", "ErrName"}, {"update -t 1", "ErrName"}, {"update ", "ErrArg"}, {"update " + many("+t 1", 9), "ErrMany"},
		{"table t", "ErrCount"}, {"table T: a Int", "ErrName"}, {"kind 0", "ErrForm"},
	} {
		d.do(x.entry, x.want)
		d.has("")
	}
}

func TestP181FullCatalog(t *testing.T) {
	d := start(t, filled()...)
	d.do("table w: a Int", "ErrFull")
	d.do("table w", "ErrCount")
	d.do("table t: a Int", "ErrTaken")
	d.do("view w: (table t)", "ErrFull")
	d.do("view w: (table x)", "ErrName x")
	d.do("view w: (table", "ErrEnd 6")
	d.do("view v: (table t)", "ErrTaken")
	// That there are too many views comes ahead of what the plan does on the rows, and has no name.
	d.do("view w: (filter (add a 9223372036854775806) (table t))", "ErrFull")
	d.do("unview va", "OK")
	d.do("view w: (filter (add a 9223372036854775806) (table t))", "ErrOver w")
	d.do("view w: (table t)", "OK")
	d.do("view x: (table t)", "ErrFull")
	d.do("drop ta", "OK")
	d.do("table x: a Int", "OK")
	d.do("table y: a Int", "ErrFull")
}

// kinds are none of those of an entry.
var kinds = []int{0, -1, -2, 6, 7, 8, 9, 10, 100, 255, 256, 257, 261, 1 << 16, 1<<32 + 1, 1<<32 + 5, math.MaxInt, math.MinInt, math.MinInt + 1}

func TestP181OtherKinds(t *testing.T) {
	d := start(t, common...)
	full := api.Entry{Name: "w", Text: "(table t)", Cols: colsOf("a Int"), Changes: changesOf("+c 1")}
	for i, kind := range kinds {
		d.do(fmt.Sprint("kind ", kind), "ErrForm")
		full.Kind = kind
		e := from(3, 1+i, full)
		for range 2 {
			if r := d.model.Do(e); r != (api.Reply{Why: api.ErrForm}) {
				t.Errorf("P18.1: kind %d: %s", kind, answer(r))
			}
		}
		e.Kind = api.Update
		if r := d.model.Do(e); r != (api.Reply{Why: api.ErrForm}) {
			t.Errorf("P18.1: kind %d is not remembered: %s", kind, answer(r))
		}
		d.has(commonRows)
	}
	if d.model.Last(3) != len(kinds) {
		t.Errorf("P18.1: Last is %d", d.model.Last(3))
	}
}

// TestP181FullTables has a table that takes no further row, be its rows one or many.
func TestP181FullTables(t *testing.T) {
	d := start(t, "table t: a Int", "table u: a Int", "view v: (table t)")
	for i := range api.MaxRows / 8 {
		var l []string
		for k := range 8 {
			l = append(l, fmt.Sprint("+t ", i*8+k))
		}
		d.do("update "+strings.Join(l, "; "), "OK")
		d.do("update "+many("+u 3", 8), "OK")
	}
	for _, name := range []string{"t", "u"} {
		d.do("update +"+name+" 3", "ErrFull")
		d.do("update +"+name+" 99; -"+name+" 3", "ErrFull")
		d.do("update -"+name+" 3; +"+name+" 99; +"+name+" 3", "ErrFull 2")
		d.do("update -"+name+" 3; +"+name+" 3", "OK")
	}
	d.do("update -t 3; +u 3", "ErrFull 1")
	d.do("update -u 3; -t 63; +u 3; +t 64", "OK")
	if s, ok := d.model.Table("u"); !ok || show(s) != "3 *64" {
		t.Errorf("P18.1: %s", show(s))
	}
	if s, ok := d.model.View("v"); !ok || len(s) != 64 || show(s[63:]) != "64" {
		t.Errorf("P18.1: %s", show(s))
	}
}

// failing are views of the tables of TestP181ViewsThatFail, and changes that make them fail.
var failing = []struct{ plan, change, want string }{
	{"(filter (add a 9223372036854775800) (table t))", "+t 8", "ErrOver"},
	{"(filter (sub a 9223372036854775800) (table t))", "+t -9", "ErrOver"},
	{"(filter (mul a a) (table t))", "+t 4294967296", "ErrOver"},
	{"(filter (neg a) (table t))", "+t -9223372036854775808", "ErrOver"},
	{"(filter (len (cat b b)) (table u))", "+u 'abcdefghijklmnopqrstu'", "ErrLong"},
	{"(project (x (add a 9223372036854775800)) (table t))", "+t 8", "ErrOver"},
	{"(project (x 1) (y (cat b b)) (table u))", "+u 'abcdefghijklmnopqrstu'", "ErrLong"},
	{"(group () (s sum a) (table t))", "+t 9223372036854775807", "ErrOver"},
	{"(group () (s sum a) (union (table t) (project (a -9223372036854775808) (table u))))", "+u 'y'; +u 'y'", "ErrOver"},
	{"(distinct (project (x (add a 9223372036854775800)) (table t)))", "+t 8", "ErrOver"},
	{"(union (table t) (filter (add a 9223372036854775800) (table t)))", "+t 8", "ErrOver"},
	{"(join (a) (a) (table t) (filter (add a 9223372036854775800) (table t)))", "+t 8", "ErrOver"},
	{"(join (x) (x) (project (x 1) (table t)) (project (x 1) (filter (add a 9223372036854775800) (table t))))", "+t 8", "ErrOver"},
}

// TestP181ViewsThatFail has a batch that makes a view fail change nothing, and the same view, made behind it, fail as well.
func TestP181ViewsThatFail(t *testing.T) {
	before := []string{"table t: a Int", "table u: b Text", "table o: a Int", "update +t 1; +t 2; +t 2; +u 'x'; +o 5"}
	for _, x := range failing {
		d := start(t, before...)
		d.do("view w: "+x.plan, "OK")
		was := rows(t, d.model)
		d.do("update "+x.change, x.want+" w")
		d.has(was)
		// Nothing at all of the batch is done, whatever tables it changes.
		d.do("update -t 1; +o 6; "+x.change+"; -u 'x'; +o 7", x.want+" w")
		d.has(was)
		// What goes on in between, but is gone at the end, is not seen.
		d.do("update "+x.change+"; "+taken(x.change), "OK")
		d.has(was)
		// An error of the batch comes first, wherever it is.
		d.do("update "+x.change+"; -o 6", fmt.Sprint("ErrAbsent ", 1+strings.Count(x.change, ";")))
		d.do("update -t 1; +o 6", "OK")
		d.do("update "+x.change, x.want+" w")
		d.do("unview w", "OK")
		d.do("update "+x.change, "OK")
		d.do("view z: "+x.plan, x.want+" z")
		d.do("unview z", "ErrName")
		d.do("update "+taken(x.change), "OK")
		d.do("view z: "+x.plan, "OK")
	}
}

// taken returns the changes that take others back.
func taken(s string) string { return strings.ReplaceAll(s, "+", "-") }

// TestP181ViewsThatAreTooGreat has views with as many rows as may be, and one more.
func TestP181ViewsThatAreTooGreat(t *testing.T) {
	d := start(t, "table t: a Int", "table u: a Int", "update "+many("+t 1", 8), "update "+many("+t 1", 8), "update "+many("+t 1", 6))
	pairs := "(join (x) (x) (project (x 1) (y a) (table t)) (project (x 1) (z a) (table t)))"
	d.do("view v: "+pairs, "OK")
	if s, _ := d.model.View("v"); show(s) != "1 1 1 *484" {
		t.Errorf("P18.2: %s", show(s))
	}
	d.do("update +t 2", "ErrFull v")
	d.do("update +t 1; +u 1", "ErrFull v")
	d.do("update +u 1", "OK")
	d.do("view w: (distinct "+pairs+")", "OK")
	d.do("update +t 2; +u 1", "ErrFull v")
	d.do("unview v", "OK")
	d.do("update +t 2; +u 1", "ErrFull w")
	d.do("unview w", "OK")
	d.do("update +t 2", "OK")
	d.do("view v: "+pairs, "ErrFull v")
	d.do("view w: (distinct "+pairs+")", "ErrFull w")
	d.do("view w: (project (a a) (table t))", "OK")
	// 512 rows are not too many.
	d = start(t, "table t: a Int", "table u: a Int", "update "+many("+t 1", 8))
	for range 8 {
		d.do("update "+many("+u 1", 8), "OK")
	}
	d.do("view v: (join (a) (a) (table t) (table u))", "OK")
	if s, _ := d.model.View("v"); show(s) != "1 *512" {
		t.Errorf("P18.2: %s", show(s))
	}
	d.do("update +t 1", "ErrFull v")
	d.do("update +t 1; "+many("-u 1", 7), "ErrFull v")
	d.do("update +t 2", "OK")
	d.do("update -t 1; -u 1", "OK")
	d.do("update +t 1; +u 1", "OK")
	d.do("update +t 1; +t 2; -t 2", "ErrFull v")
}

// TestP181FirstViewThatFails has the first in the order of the names told, whenever it was made and whatever its error is.
func TestP181FirstViewThatFails(t *testing.T) {
	over, long, fine := "(filter (add a 9223372036854775800) (table t))", "(filter (len (cat b b)) (table u))", "(table t)"
	twice := "(union " + over + " (filter (len (cat \"abcdefghijklmnopqrst\" (if (lt a 8) \"\" \"abcdefghijklmnopqrstu\"))) (table t)))"
	for _, x := range []struct{ views, change, want string }{
		{"b " + over + "; c " + over, "+t 8", "ErrOver b"},
		{"c " + over + "; b " + over, "+t 8", "ErrOver b"},
		{"c " + over + "; b " + fine, "+t 8", "ErrOver c"},
		{"b " + over + "; c " + fine, "+t 8", "ErrOver b"},
		{"z " + over + "; ab " + over + "; aab " + over, "+t 8", "ErrOver aab"},
		{"b " + over + "; a " + long, "+t 8; +u 'abcdefghijklmnopqrstu'", "ErrLong a"},
		{"b " + long + "; a " + over, "+t 8; +u 'abcdefghijklmnopqrstu'", "ErrOver a"},
		{"b " + long + "; a " + over, "+u 'abcdefghijklmnopqrstu'; +t 8", "ErrOver a"},
		{"b " + long + "; a " + over, "+u 'abcdefghijklmnopqrstu'", "ErrLong b"},
		{"a " + long + "; b " + over, "+t 8", "ErrOver b"},
		{"a " + twice + "; b " + over, "+t 8", "ErrOver a"},
		{"a " + long + "; c " + fine + "; b " + over + "; d " + twice, "+t 8; +u 'x'", "ErrOver b"},
	} {
		d := start(t, "table t: a Int", "table u: b Text", "update +t 1; +u 'x'")
		for v := range strings.SplitSeq(x.views, "; ") {
			name, plan, _ := strings.Cut(v, " ")
			d.do("view "+name+": "+plan, "OK")
		}
		d.do("update "+x.change, x.want)
	}
}

// TestP181Deep has the part of a plan that fails within parts of each kind, so deep that no further bracket can be open.
func TestP181Deep(t *testing.T) {
	for _, x := range []string{"(distinct %)", "(filter 1 %)", "(filter 0 %)", "(project (a 5) %)", "(union % (table t))", "(union (table t) %)", "(join (a) (a) % (table t))", "(join (a) (a) (filter 0 (table t)) %)", "(group (a) %)", "(group () (n count) %)"} {
		s := "(filter (add a 9223372036854775800) (table t))"
		for range api.MaxDeep - 2 {
			s = strings.ReplaceAll(x, "%", s)
		}
		d := start(t, "table t: a Int", "update +t 7", "view v: "+s)
		d.do("update +t 8", "ErrOver v")
		d.do("update +t 8; -t 7", "ErrOver v")
		d.do("unview v", "OK")
		d.do("update +t 8", "OK")
		d.do("view v: "+s, "ErrOver v")
		d.do("update -t 8", "OK")
		d.has("table t 7")
	}
}

// TestP181BadValues has rows of values that are none, or that do not fit, in a batch whose other changes could be done.
func TestP181BadValues(t *testing.T) {
	d := start(t, "table t: a Int", "table u: b Text", "update +t 1; +u 'x'")
	for i, x := range []struct {
		table string
		row   api.Row
	}{
		{"t", nil}, {"t", api.Row{}}, {"t", api.Row{{}}}, {"t", api.Row{{Kind: 3, N: 1}}}, {"t", api.Row{{Kind: -1}}}, {"t", api.Row{{Kind: api.Int, N: 1, S: "x"}}}, {"t", api.Row{str("x")}},
		{"t", api.Row{num(1), num(1)}}, {"t", make(api.Row, 1<<16)},
		{"u", api.Row{num(1)}}, {"u", api.Row{{Kind: api.Text, N: 1, S: "x"}}}, {"u", api.Row{str(longest + "z")}}, {"u", api.Row{str(strings.Repeat("x", 1<<20))}}, {"u", api.Row{str("x"), str("x")}},
	} {
		for k, remove := range []bool{false, true} {
			c := append(changesOf("+t 2; -u 'x'"), api.Change{Table: x.table, Row: x.row, Remove: remove})
			if r := d.model.Do(from(1+k, 1+i, api.Entry{Kind: api.Update, Changes: c})); r != (api.Reply{Why: api.ErrType, At: 2}) {
				t.Errorf("P18.1: row %d, removed %v: %s", i, remove, answer(r))
			}
			d.has("table t 1 | table u 'x'")
		}
	}
}

// TestR1Large has entries that are far greater than any that can be done.
func TestR1Large(t *testing.T) {
	const n = 1 << 17
	huge := strings.Repeat("x", n)
	d := start(t, common...)
	for i, x := range []struct {
		entry api.Entry
		want  string
	}{
		{api.Entry{Kind: api.MakeTable, Name: huge, Cols: colsOf("a Int")}, "ErrName"},
		{api.Entry{Kind: api.MakeTable, Name: "w", Cols: make([]api.Col, n)}, "ErrCount"},
		{api.Entry{Kind: api.MakeTable, Name: "w", Cols: []api.Col{{Name: huge, Kind: api.Int}}}, "ErrName"},
		{api.Entry{Kind: api.DropTable, Name: huge}, "ErrName"},
		{api.Entry{Kind: api.MakeView, Name: huge, Text: "(table t)"}, "ErrName"},
		{api.Entry{Kind: api.MakeView, Name: "w", Text: huge}, "ErrLong"},
		{api.Entry{Kind: api.MakeView, Name: "w", Text: strings.Repeat("(", n)}, "ErrLong"},
		{api.Entry{Kind: api.MakeView, Name: "w", Text: "\x00"}, "ErrForm"},
		{api.Entry{Kind: api.DropView, Name: huge}, "ErrName"},
		{api.Entry{Kind: api.Update, Changes: make([]api.Change, n)}, "ErrMany"},
		{api.Entry{Kind: api.Update, Changes: []api.Change{{Table: huge, Row: rowOf("1")}}}, "ErrName"},
		{api.Entry{Kind: api.Update, Changes: []api.Change{{Row: rowOf("1")}}}, "ErrName"},
		{api.Entry{Kind: n, Name: huge, Text: huge, Cols: make([]api.Col, n), Changes: make([]api.Change, n)}, "ErrForm"},
	} {
		e := from(2, 1+i, x.entry)
		for range 2 {
			if got := answer(d.model.Do(e)); got != x.want {
				t.Errorf("P18.1: %d: %s, want %s", i, cut(got), x.want)
			}
		}
		d.has(commonRows)
	}
}
