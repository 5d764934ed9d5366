package eval_test

import (
	"fmt"
	"math"
	"strconv"
	"strings"
	"testing"

	"confluence/api"
	"confluence/check"
	"confluence/eval"
	"confluence/plan"
	"confluence/row"
	"confluence/zset"
)

// longest is as long as a text may be.
var longest = strings.Repeat("z", api.MaxText)

// col returns the column that a text like "a Int" tells.
func col(s string) api.Col {
	name, kind, _ := strings.Cut(s, " ")
	switch kind {
	case "Int":
		return api.Col{Name: name, Kind: api.Int}
	case "Text":
		return api.Col{Name: name, Kind: api.Text}
	}
	n, _ := strconv.Atoi(kind)
	return api.Col{Name: name, Kind: n}
}

func num(n int64) api.Value { return api.Value{Kind: api.Int, N: n} }

func str(s string) api.Value { return api.Value{Kind: api.Text, S: s} }

// item returns the item that a text like "1 'x' *3" tells: a number and a text, three times.
func item(s string) api.Item {
	x := api.Item{T: 1}
	for w := range strings.FieldsSeq(s) {
		n, err := strconv.ParseInt(w, 10, 64)
		switch {
		case w[0] == '*':
			often, _ := strconv.ParseInt(w[1:], 10, 64)
			x.T = complex(float64(often), 0)
		case w[0] == '\'':
			x.Row = append(x.Row, str(strings.Trim(w, "'")))
		case err != nil:
			panic("no value: " + w)
		default:
			x.Row = append(x.Row, num(n))
		}
	}
	return x
}

// set returns the items that a text like "1 'x' *3; 2 'y'" tells, be they a set or not.
func set(s string) api.Set {
	var l api.Set
	if s == "" {
		return nil
	}
	for part := range strings.SplitSeq(s, "; ") {
		l = append(l, item(part))
	}
	return l
}

// table returns the table that texts like "t: a Int, b Text" and "1 'x' *3; 2 'y'" tell.
func table(def, rows string) eval.Table {
	name, rest, _ := strings.Cut(def, ": ")
	t := eval.Table{Name: name, Rows: set(rows)}
	for c := range strings.SplitSeq(rest, ", ") {
		if c != "" {
			t.Cols = append(t.Cols, col(c))
		}
	}
	return t
}

func showRow(r api.Row) string {
	var l []string
	for _, v := range r {
		switch {
		case v.Kind == api.Int && v.S == "":
			l = append(l, fmt.Sprint(v.N))
		case v.Kind == api.Text && v.N == 0:
			l = append(l, "'"+v.S+"'")
		default:
			l = append(l, fmt.Sprintf("%#v", v))
		}
	}
	return strings.Join(l, " ")
}

// show tells a set as set reads it.
func show(s api.Set) string {
	var l []string
	for _, x := range s {
		r := showRow(x.Row)
		switch {
		case x.T == 1:
		case imag(x.T) == 0 && real(x.T) > 1:
			r += fmt.Sprintf(" *%d", int64(real(x.T)))
		default:
			r += fmt.Sprintf(" *%v", x.T)
		}
		l = append(l, r)
	}
	return strings.Join(l, "; ")
}

func showErr(why api.Errno) string {
	switch why {
	case api.OK:
		return "OK"
	case api.ErrArg:
		return "ErrArg"
	case api.ErrLong:
		return "ErrLong"
	case api.ErrForm:
		return "ErrForm"
	case api.ErrFull:
		return "ErrFull"
	case api.ErrName:
		return "ErrName"
	case api.ErrTaken:
		return "ErrTaken"
	case api.ErrType:
		return "ErrType"
	case api.ErrCount:
		return "ErrCount"
	case api.ErrOver:
		return "ErrOver"
	}
	return fmt.Sprintf("error %d", why)
}

// result tells all that Eval returns: the rows, or the error. Rows that may not stand beside an error are told too.
func result(p api.Plan, l []eval.Table) string {
	s, why := eval.Eval(p, l)
	switch {
	case why == api.OK:
		return show(s)
	case len(s) > 0:
		return showErr(why) + " beside " + show(s)
	}
	return showErr(why)
}

// read returns the plan of a text, which must be one.
func read(t *testing.T, s string) api.Plan {
	t.Helper()
	p, why, at := plan.Read(s)
	if why != api.OK {
		t.Fatalf("%s is no plan: error %d at %d", s, why, at)
	}
	return p
}

// gives checks what Eval of a plan returns, and that it returns a multiset whose rows fit (P11.2).
func gives(t *testing.T, l []eval.Table, s, want string) {
	t.Helper()
	p := read(t, s)
	if got := result(p, l); got != want {
		t.Errorf("Eval of %s: %.300s, not %.300s", s, got, want)
	}
	fits(t, p, l)
}

// fits holds a result to P11.2.
func fits(t *testing.T, p api.Plan, l []eval.Table) {
	t.Helper()
	rows, why := eval.Eval(p, l)
	cols, _, _ := check.Out(p, eval.Defs(l))
	if why == api.OK && (!zset.Plain(rows) || len(cols) == 0) {
		t.Errorf("Eval of %s: no multiset: %.300s", plan.Print(p), show(rows))
	}
	for _, x := range rows {
		if !row.Fits(cols, x.Row) {
			t.Errorf("Eval of %s: a row %s, which doesn't fit %v", plan.Print(p), showRow(x.Row), cols)
		}
	}
}

// each checks what Eval returns of several plans, of which each stands ahead of its result.
func each(t *testing.T, l []eval.Table, cases ...string) {
	t.Helper()
	for i := 0; i < len(cases); i += 2 {
		gives(t, l, cases[i], cases[i+1])
	}
}

// one returns the list of a table t.
func one(cols, rows string) []eval.Table { return []eval.Table{table("t: "+cols, rows)} }

// numbers tells the rows 0 to n-1 of one number.
func numbers(n int) string {
	var l []string
	for i := range n {
		l = append(l, fmt.Sprint(i))
	}
	return strings.Join(l, "; ")
}

func TestDefs(t *testing.T) {
	for _, l := range [][]eval.Table{nil, {}} {
		if got := eval.Defs(l); len(got) != 0 {
			t.Errorf("Defs of no tables: %v", got)
		}
	}
	l := []eval.Table{
		table("t: a Int, b Text", "1 'x'"),
		table("u: c Text", ""),
		table("u: a Int, a Int, A 7", "5; 1"),
		{Rows: set("1")},
		{Name: "table"},
	}
	want := []check.Def{
		{Name: "t", Cols: []api.Col{{Name: "a", Kind: api.Int}, {Name: "b", Kind: api.Text}}},
		{Name: "u", Cols: []api.Col{{Name: "c", Kind: api.Text}}},
		{Name: "u", Cols: []api.Col{{Name: "a", Kind: api.Int}, {Name: "a", Kind: api.Int}, {Name: "A", Kind: 7}}},
		{},
		{Name: "table"},
	}
	for n := range len(l) + 1 {
		if got := eval.Defs(l[:n]); fmt.Sprint(got) != fmt.Sprint(want[:n]) {
			t.Errorf("Defs: %v, not %v", got, want[:n])
		}
	}
}

// rightTables are valid lists of tables.
func rightTables() [][]eval.Table {
	var six []string
	for range api.MaxCols {
		six = append(six, "'"+longest+"'")
	}
	long := strings.Repeat("q", api.MaxName)
	return [][]eval.Table{
		nil,
		{},
		one("a Int", ""),
		one("a Int", "5"),
		one("a Int", "-9223372036854775808; 0; 9223372036854775807"),
		one("a Text", "''; 'x'; '"+longest+"'"),
		one("a Int, b Text", "1 'x' *3; 1 'y'; 2 ''"),
		one("a Text, b Int", "'x' -1; 'x' 1"),
		one("a Text, b Text, c Text, d Text, e Text, f Text", strings.Join(six, " ")),
		one("a Int", "1 *1125899906842624; 2 *1125899906842624"),
		{table(long+": "+long+" Int", "1")},
		{table("t: a Int", "1"), table("u: a Text", "'x'"), table("v: a Int", "1")},
		{table("t: t Int, u Int", "1 1"), table("u: t Int, u Int", "1 1")},
		{table("z: a Int", ""), table("a: a Int", "")},
		{table("a: a Int", "1"), table("b: a Int", "1"), table("c: a Int", "1"), table("d: a Int", "1"), table("e: a Int", "1"), table("f: a Int", "1"), table("g: a Int", "1"), table("h: a Int", "1")},
		one("a Int", numbers(api.MaxOut+1)),
		{{Name: "t", Cols: []api.Col{{Name: "a", Kind: api.Int}}, Rows: api.Set{}}},
	}
}

// wrongRows are rows of a table of columns a Int, b Text that make it wrong.
func wrongRows() []api.Set {
	inf, nan := math.Inf(1), math.NaN()
	good := item("1 'x'").Row
	var sets []api.Set
	for _, c := range []complex128{
		0, complex(0, 1), complex(0, 3), complex(1, 1), complex(2, 1), complex(1, 2), complex(-1, 0), complex(-1, -1), complex(0, -1),
		0.5, complex(1, 0.5), complex(inf, 0), complex(0, inf), complex(nan, 0), complex(1, nan), complex(api.MaxPart+1, 0), complex(0, api.MaxPart+1), complex(math.MaxFloat64, 0),
	} {
		sets = append(sets, api.Set{{Row: good, T: c}}, api.Set{{Row: good, T: 1}, {Row: item("2 'x'").Row, T: c}}, api.Set{{Row: item("0 ''").Row, T: c}, {Row: good, T: 1}})
	}
	for _, r := range []api.Row{
		nil, {}, {num(1)}, {str("x")}, {num(1), str("x"), num(1)}, {num(1), str("x"), str("x")}, {num(1), num(1)}, {str("x"), str("x")}, {str("x"), num(1)},
		{{}, str("x")}, {num(1), {}}, {{Kind: 3}, str("x")}, {{Kind: api.Int, N: 1, S: "x"}, str("x")}, {num(1), {Kind: api.Text, N: 1, S: "x"}}, {num(1), str(longest + "z")},
		{num(1), str("x"), num(1), num(1), num(1), num(1), num(1)},
	} {
		sets = append(sets, api.Set{{Row: r, T: 1}}, api.Set{{Row: item("0 ''").Row, T: 1}, {Row: r, T: 1}}, api.Set{{Row: r, T: 1}, {Row: item("9 'x'").Row, T: 1}})
	}
	for _, s := range []string{"1 'x'; 1 'x'", "2 'x'; 1 'x'", "1 'y'; 1 'x'", "1 'x' *2; 1 'x' *3", "1 'a'; 2 'a'; 3 'a'; 3 'a'", "1 'a'; 3 'a'; 2 'a'; 4 'a'", "1 'x'; 0 'x'; 2 'x'"} {
		sets = append(sets, set(s))
	}
	return sets
}

// wrongTables are lists of tables that are not valid. Each of them has a table t of a column a, or a and b.
func wrongTables() [][]eval.Table {
	good := table("t: a Int, b Text", "1 'x'")
	var lists [][]eval.Table
	wrong := func(bad eval.Table) {
		lists = append(lists, []eval.Table{bad, good}, []eval.Table{good, bad}, []eval.Table{table("s: c Int", ""), good, bad, table("r: c Int", "5")})
	}
	for _, def := range []string{
		"T: a Int", ": a Int", "table: a Int", "count: a Int", "qqqqqqqqqqqqq: a Int", "u1: a Int", "u v: a Int",
		"t: a Int", "t: z Text",
		"u: ", "u: a Int, b Int, c Int, d Int, e Int, f Int, g Int", "u: a Int, a Int", "u: a Int, b Int, a Text", "u: A Int", "u: sum Int", "u: a 0", "u: a 3", "u: a -1", "u:  Int", "u: a Int, if Int",
	} {
		wrong(table(def, ""))
	}
	wrong(eval.Table{})
	wrong(eval.Table{Rows: set("1")})
	for _, s := range wrongRows() {
		bad := table("u: a Int, b Text", "")
		bad.Rows = s
		wrong(bad)
		bad.Name = "t"
		lists = append(lists, []eval.Table{bad}, []eval.Table{table("s: c Int", "1"), bad})
	}
	for _, rows := range []string{"1; 1", "2; 1", "'x'", "1 1"} {
		lists = append(lists, one("a Int", rows))
	}
	// Of values that have no columns.
	wrong(table("u: ", "1"))
	wrong(eval.Table{Name: "u", Rows: api.Set{{T: 1}}})
	return lists
}

func TestRight(t *testing.T) {
	for _, l := range rightTables() {
		if !eval.Right(l) {
			t.Errorf("Right of %v: false", l)
		}
	}
	for _, l := range wrongTables() {
		if eval.Right(l) {
			t.Errorf("Right of %v: true", l)
		}
	}
}

// TestP111Arg holds Eval against tables that are not valid: that comes ahead of what is wrong with the plan.
func TestP111Arg(t *testing.T) {
	for _, s := range []string{"(table t)", "(table s)", "(table ghost)", "(filter ghost (table t))", "(group (a) (n count) (table t))", "(union (table t) (table ghost))"} {
		p := read(t, s)
		for _, l := range wrongTables() {
			if got := result(p, l); got != "ErrArg" {
				t.Errorf("Eval of %s, tables %v: %s, not ErrArg", s, l, got)
			}
		}
	}
	for _, p := range []api.Plan{{}, {Kind: api.Union}, {Kind: api.Table, Name: "t", Cols: []string{"a"}}} {
		for _, l := range wrongTables() {
			if got := result(p, l); got != "ErrArg" {
				t.Errorf("Eval of %v, tables %v: %s, not ErrArg", p, l, got)
			}
		}
	}
	for _, l := range rightTables() {
		if got := result(read(t, "(table ghost)"), l); got != "ErrName" {
			t.Errorf("Eval of a table that is not there, tables %v: %s", l, got)
		}
		if got := result(api.Plan{}, l); got != "ErrForm" {
			t.Errorf("Eval of no plan, tables %v: %s", l, got)
		}
	}
}

// TestP111Check holds Eval to the errors of check.Out, which come ahead of those of the evaluation.
func TestP111Check(t *testing.T) {
	l := []eval.Table{
		table("t: a Int, b Text", "9223372036854775807 '"+longest+"'"),
		table("full: c Int", numbers(api.MaxOut+1)),
		table("none: c Int, d Text", ""),
	}
	cases := []string{
		"(table ghost)", "ErrName",
		"(filter ghost (table t))", "ErrName",
		"(filter b (table t))", "ErrType",
		"(filter (add a b) (table t))", "ErrType",
		"(filter d (table none))", "ErrType",
		"(project (x a) (x b) (table t))", "ErrTaken",
		"(project (x c) (table t))", "ErrName",
		"(project (x c) (x d) (table none))", "ErrTaken",
		"(project (u 1) (v 1) (w 1) (x 1) (y 1) (z 1) (q 1) (table t))", "ErrCount",
		"(join () () (table t) (table none))", "ErrCount",
		"(join (a) (d) (table t) (table none))", "ErrType",
		"(join (a) (a) (table t) (table t))", "ErrTaken",
		"(join (x) (c) (table t) (table none))", "ErrName",
		"(join (c c) (c c) (table none) (table none))", "ErrTaken",
		"(union (table t) (table full))", "ErrCount",
		"(union (table t) (project (a b) (b a) (table t)))", "ErrType",
		"(union (table none) (project (a d) (b c) (table none)))", "ErrType",
		"(group () (table t))", "ErrCount",
		"(group (a) (n sum b) (table t))", "ErrType",
		"(group (a) (a count) (table t))", "ErrTaken",
		"(group () (n max c) (table t))", "ErrName",
		"(group (c c) (table none))", "ErrTaken",
	}
	each(t, l, cases...)
	// Errors of the evaluation further left or within.
	for i := 0; i < len(cases); i += 2 {
		for _, around := range []string{
			"(union (table full) %s)",
			"(union (filter (neg (sub (neg a) 2)) (table t)) %s)",
			"(join (a) (a) (project (a (len (cat b b))) (table t)) %s)",
			"(union (distinct (group () (n sum a) (union (table t) (table t)))) (distinct %s))",
		} {
			gives(t, l, fmt.Sprintf(around, cases[i]), cases[i+1])
		}
	}
	each(t, l,
		"(filter ghost (table full))", "ErrName",
		"(project (x ghost) (filter (add a 1) (table t)))", "ErrName",
		"(group (ghost) (table full))", "ErrName",
		"(join (c) (ghost) (table full) (table full))", "ErrName",
		"(union (table full) (project (x \"x\") (table full)))", "ErrType",
	)
}

// TestP111Form holds Eval against plans that plan.Read cannot return, and against those that have no end.
func TestP111Form(t *testing.T) {
	l := one("a Int", "1; 2")
	table := []api.Plan{{Kind: api.Table, Name: "t"}}
	half := api.Expr{Kind: api.Apply, S: "add", Kids: make([]api.Expr, 2)}
	half.Kids[0], half.Kids[1] = half, half
	plans := []api.Plan{
		{}, {Kind: 8}, {Kind: -1}, {Kind: api.Table}, {Kind: api.Table, Name: "T"}, {Kind: api.Table, Name: "t", Left: []string{"a"}},
		{Kind: api.Filter}, {Kind: api.Filter, Kids: table}, {Kind: api.Filter, Exprs: []api.Expr{{}}, Kids: table},
		{Kind: api.Filter, Exprs: []api.Expr{{Kind: api.Number, N: 1}}}, {Kind: api.Filter, Exprs: []api.Expr{half}, Kids: table},
		{Kind: api.Project, Kids: table}, {Kind: api.Project, Cols: []string{"x"}, Kids: table},
		{Kind: api.Project, Cols: []string{"x"}, Exprs: []api.Expr{{Kind: api.String, S: longest + "z"}}, Kids: table},
		{Kind: api.Join, Kids: table}, {Kind: api.Join, Left: []string{"a"}, Right: []string{"a"}, Kids: table},
		{Kind: api.Union, Kids: table}, {Kind: api.Union, Kids: make([]api.Plan, 2)}, {Kind: api.Union, Kids: make([]api.Plan, 1<<18)},
		{Kind: api.Distinct}, {Kind: api.Group}, {Kind: api.Group, Aggs: []api.Agg{{Name: "n", Fun: "avg", Col: "a"}}, Kids: table},
		{Kind: api.Group, Aggs: []api.Agg{{Name: "n", Fun: "count", Col: "a"}}, Kids: table},
	}
	deep := table[0]
	for range api.MaxDeep {
		deep = api.Plan{Kind: api.Distinct, Kids: []api.Plan{deep}}
	}
	plans = append(plans, deep)
	for kind := range 9 {
		p := api.Plan{Kind: kind, Kids: make([]api.Plan, 2)}
		p.Kids[0], p.Kids[1] = p, p
		plans = append(plans, p)
		p = api.Plan{Kind: kind, Kids: make([]api.Plan, 1)}
		p.Kids[0] = p
		plans = append(plans, p)
	}
	for i, p := range plans {
		if got := result(p, l); got != "ErrForm" {
			t.Errorf("Eval of plan %d that can't be read: %s, not ErrForm", i, got)
		}
		if got := result(p, nil); got != "ErrForm" {
			t.Errorf("Eval of plan %d that can't be read, no tables: %s, not ErrForm", i, got)
		}
		if got := result(api.Plan{Kind: api.Union, Kids: []api.Plan{{Kind: api.Table, Name: "ghost"}, p}}, l); got != "ErrForm" {
			t.Errorf("Eval of a union of plan %d that can't be read: %s, not ErrForm", i, got)
		}
	}
}

func TestP111Table(t *testing.T) {
	l := []eval.Table{
		table("t: a Int, b Text", "-3 'x'; 1 '' *7; 1 'x' *512"),
		table("u: a Int, b Text", "-3 'x'; 1 '' *7; 5 'y' *2"),
		table("v: a Text", ""),
		table("w: b Text, a Int", "'' 1; '"+longest+"' -9223372036854775808 *511"),
	}
	each(t, l,
		"(table t)", "ErrFull",
		"(table u)", "-3 'x'; 1 '' *7; 5 'y' *2",
		"(table v)", "",
		"(table w)", "'' 1; '"+longest+"' -9223372036854775808 *511",
		"(table x)", "ErrName",
	)
	for i, s := range l {
		p := read(t, "(table "+s.Name+")")
		if got := result(p, l[i:i+1]); got != result(p, l) {
			t.Errorf("Eval of table %s alone: %s", s.Name, got)
		}
		if got := result(p, nil); got != "ErrName" {
			t.Errorf("Eval of table %s without tables: %s", s.Name, got)
		}
	}
}

func TestP111Filter(t *testing.T) {
	l := one("a Int, b Text", "-9223372036854775808 'x'; -1 ''; 0 'y' *4; 1 'x' *3; 2 'x'; 2 'z' *2; 9223372036854775807 ''")
	all := show(l[0].Rows)
	each(t, l,
		"(filter 1 (table t))", all,
		"(filter -1 (table t))", all,
		"(filter 2 (table t))", all,
		"(filter 4294967296 (table t))", all,
		"(filter 9223372036854775807 (table t))", all,
		"(filter -9223372036854775808 (table t))", all,
		"(filter 0 (table t))", "",
		"(filter a (table t))", "-9223372036854775808 'x'; -1 ''; 1 'x' *3; 2 'x'; 2 'z' *2; 9223372036854775807 ''",
		"(filter (not a) (table t))", "0 'y' *4",
		"(filter (lt a 2) (table t))", "-9223372036854775808 'x'; -1 ''; 0 'y' *4; 1 'x' *3",
		"(filter (eq b \"x\") (table t))", "-9223372036854775808 'x'; 1 'x' *3; 2 'x'",
		"(filter (len b) (table t))", "-9223372036854775808 'x'; 0 'y' *4; 1 'x' *3; 2 'x'; 2 'z' *2",
		"(filter (eq b \"x\") (filter (lt 0 a) (table t)))", "1 'x' *3; 2 'x'",
	)
	for _, rows := range []string{"", "5", "5 *9", "5; 6; 7 *2"} {
		each(t, one("a Int", rows),
			"(filter (lt 4 a) (table t))", rows,
			"(filter 0 (table t))", "",
		)
	}
	each(t, one("a Int", "0"), "(filter a (table t))", "")
	each(t, one("a Int", "0 *3; 3"), "(filter a (table t))", "3")
}

// errs is an expression that gives a where b is plain, and an error where it is not: 'o' stands for ErrOver, 'l' for ErrLong.
const errs = `(if (eq b "o") (neg -9223372036854775808) (if (eq b "l") (len (cat "0123456789012345678901234567890123456789" "0")) a))`

// TestP111FilterErrors asks of which row the error comes.
func TestP111FilterErrors(t *testing.T) {
	for rows, want := range map[string]string{
		"":                      "",
		"1 'o'":                 "ErrOver",
		"1 'l'":                 "ErrLong",
		"1 'o' *3":              "ErrOver",
		"1 'x'; 2 'o'":          "ErrOver",
		"1 'o'; 2 'x'":          "ErrOver",
		"1 'x'; 2 'l'; 3 'x'":   "ErrLong",
		"1 'o'; 2 'l'":          "ErrOver",
		"1 'l'; 2 'o'":          "ErrLong",
		"1 'l' *2; 2 'o' *9":    "ErrLong",
		"1 'x'; 2 'o'; 3 'l'":   "ErrOver",
		"1 'x'; 2 'l'; 3 'o'":   "ErrLong",
		"1 'l'; 1 'o'; 1 'x'":   "ErrLong",
		"0 'x'; 1 'x'; 2 ''":    "1 'x'; 2 ''",
		"-5 'o'; -4 'l'; 9 'x'": "ErrOver",
	} {
		l := one("a Int, b Text", rows)
		gives(t, l, "(filter "+errs+" (table t))", want)
		gives(t, l, "(filter 1 (filter "+errs+" (table t)))", want)
		outer := want
		if strings.Contains(want, "'x'") {
			outer = "ErrOver"
		}
		gives(t, l, "(filter (neg (sub -9223372036854775807 (len b))) (filter "+errs+" (table t)))", outer)
		// A row that an earlier filter has taken away has no error.
		gives(t, l, "(filter "+errs+" (filter (and (not (eq b \"o\")) (not (eq b \"l\"))) (table t)))", strings.Join(plainRows(rows), "; "))
	}
	// The order is that of the rows of the Kid, not of the table: the project turns it round.
	turned := "(filter " + errs + " (project (a (neg a)) (b b) (table t)))"
	gives(t, one("a Int, b Text", "1 'l'; 2 'o'"), turned, "ErrOver")
	gives(t, one("a Int, b Text", "1 'o'; 2 'x'; 3 'l'"), turned, "ErrLong")
	// Of a union, it is that of all rows.
	two := []eval.Table{table("t: a Int, b Text", "2 'l'; 9 'x'"), table("u: c Int, d Text", "1 'o'; 3 'o'")}
	gives(t, two, "(filter "+errs+" (union (table t) (table u)))", "ErrOver")
	two[1].Rows = set("3 'o'")
	gives(t, two, "(filter "+errs+" (union (table t) (table u)))", "ErrLong")
	gives(t, two, "(filter "+errs+" (union (table t) (filter (lt c 0) (table u))))", "ErrLong")
}

// plainRows are those whose number is not 0 and for which errs gives no error.
func plainRows(rows string) []string {
	var l []string
	for s := range strings.SplitSeq(rows, "; ") {
		if s != "" && !strings.Contains(s, "'o'") && !strings.Contains(s, "'l'") && !strings.HasPrefix(s, "0 ") {
			l = append(l, s)
		}
	}
	return l
}

func TestP111Project(t *testing.T) {
	l := one("a Int, b Text", "-3 'x' *2; 1 ''; 1 'x' *3; 2 'x'; 3 'z' *4")
	each(t, l,
		"(project (x a) (y b) (table t))", show(l[0].Rows),
		"(project (b a) (a b) (table t))", show(l[0].Rows),
		"(project (x a) (table t))", "-3 *2; 1 *4; 2; 3 *4",
		"(project (x b) (table t))", "''; 'x' *6; 'z' *4",
		"(project (x b) (y a) (table t))", "'' 1; 'x' -3 *2; 'x' 1 *3; 'x' 2; 'z' 3 *4",
		"(project (x 7) (table t))", "7 *11",
		"(project (x \"c\") (y -1) (table t))", "'c' -1 *11",
		"(project (x (neg a)) (table t))", "-3 *4; -2; -1 *4; 3 *2",
		"(project (x (mul a a)) (table t))", "1 *4; 4; 9 *6",
		"(project (x (lt a 2)) (y (len b)) (table t))", "0 1 *5; 1 0; 1 1 *5",
		"(project (u a) (v a) (w b) (x 1) (y b) (z a) (table t))", "-3 -3 'x' 1 'x' -3 *2; 1 1 '' 1 '' 1; 1 1 'x' 1 'x' 1 *3; 2 2 'x' 1 'x' 2; 3 3 'z' 1 'z' 3 *4",
		"(project (x (cat b \"z\")) (table t))", "'xz' *6; 'z'; 'zz' *4",
		"(project (x 0) (project (x a) (table t)))", "0 *11",
	)
	for _, rows := range []string{"", "5", "5 *9", "5; 6; 7 *2"} {
		each(t, one("a Int", rows), "(project (b (add a 0)) (table t))", rows)
	}
	each(t, one("a Int", "5; 6; 7 *2"), "(project (b 1) (table t))", "1 *4")
	each(t, one("a Int", "-1 *256; 1 *256"), "(project (b (mul a a)) (table t))", "1 *512")
	each(t, one("a Int", ""), "(project (b (neg -9223372036854775808)) (table t))", "")
}

// TestP111ProjectErrors asks of which row, and of which expression, the error comes.
func TestP111ProjectErrors(t *testing.T) {
	over, long := "(neg -9223372036854775808)", `(cat "0123456789012345678901234567890123456789" "0")`
	l := one("a Int, b Text", "1 'x'; 2 'y'")
	each(t, l,
		"(project (x "+over+") (table t))", "ErrOver",
		"(project (x "+long+") (table t))", "ErrLong",
		"(project (x "+over+") (y "+long+") (table t))", "ErrOver",
		"(project (x "+long+") (y "+over+") (table t))", "ErrLong",
		"(project (x a) (y "+long+") (z "+over+") (table t))", "ErrLong",
		"(project (x a) (y "+over+") (z "+long+") (u b) (table t))", "ErrOver",
		"(project (x a) (y b) (z "+long+") (table t))", "ErrLong",
		"(project (u 1) (v 2) (w 3) (x 4) (y 5) (z "+over+") (table t))", "ErrOver",
		// All expressions of one row come ahead of the first of the next one.
		"(project (x (if (eq a 2) (neg (sub -9223372036854775807 1)) 0)) (y (if (eq a 1) "+long+" b)) (table t))", "ErrLong",
		"(project (x (if (eq a 2) "+long+" b)) (y (if (eq a 1) (sub -9223372036854775807 2) 0)) (table t))", "ErrOver",
		"(project (x (if (eq a 1) "+long+" b)) (y (if (eq a 1) (sub -9223372036854775807 2) 0)) (table t))", "ErrLong",
		"(project (x (if (eq a 2) "+long+" b)) (y (if (eq a 2) (sub -9223372036854775807 2) 0)) (table t))", "ErrLong",
	)
	for rows, want := range map[string]string{
		"":                    "",
		"0 'x'; 1 '' *2":      "0; 1 *2",
		"1 'o'":               "ErrOver",
		"1 'l' *5":            "ErrLong",
		"1 'x'; 2 'o'":        "ErrOver",
		"1 'o'; 2 'l'":        "ErrOver",
		"1 'l'; 2 'o'; 3 'x'": "ErrLong",
		"1 'l'; 1 'o'":        "ErrLong",
	} {
		l := one("a Int, b Text", rows)
		gives(t, l, "(project (x "+errs+") (table t))", want)
		gives(t, l, "(filter 1 (project (x "+errs+") (table t)))", want)
	}
	// The order is that of the rows of the Kid.
	gives(t, one("a Int, b Text", "1 'l'; 2 'o'"), "(project (x "+errs+") (project (a (neg a)) (b b) (table t)))", "ErrOver")
}

func TestP111Join(t *testing.T) {
	l := []eval.Table{
		table("t: a Int, b Text, c Int", "1 'x' 10 *2; 1 'y' 20; 2 'x' 30 *3; 3 'z' 40"),
		table("u: d Int, e Text, f Int", "1 'x' 100; 1 'x' 200 *4; 2 'q' 300 *5; 4 'x' 400; 5 'z' 10"),
		table("none: g Int, h Text", ""),
		table("once: k Int", "1"),
	}
	each(t, l,
		// On one column, of numbers and of texts, wherever it stands.
		"(join (a) (d) (table t) (table u))", "1 'x' 10 'x' 100 *2; 1 'x' 10 'x' 200 *8; 1 'y' 20 'x' 100; 1 'y' 20 'x' 200 *4; 2 'x' 30 'q' 300 *15",
		"(join (d) (a) (table u) (table t))", "1 'x' 100 'x' 10 *2; 1 'x' 100 'y' 20; 1 'x' 200 'x' 10 *8; 1 'x' 200 'y' 20 *4; 2 'q' 300 'x' 30 *15",
		"(join (b) (e) (table t) (table u))", "1 'x' 10 1 100 *2; 1 'x' 10 1 200 *8; 1 'x' 10 4 400 *2; 2 'x' 30 1 100 *3; 2 'x' 30 1 200 *12; 2 'x' 30 4 400 *3; 3 'z' 40 5 10",
		"(join (c) (f) (table t) (table u))", "1 'x' 10 5 'z' *2",
		"(join (f) (c) (table u) (table t))", "5 'z' 10 1 'x' *2",
		"(join (c) (d) (table t) (table u))", "",
		// On several.
		"(join (a b) (d e) (table t) (table u))", "1 'x' 10 100 *2; 1 'x' 10 200 *8",
		"(join (b a) (e d) (table t) (table u))", "1 'x' 10 100 *2; 1 'x' 10 200 *8",
		"(join (c b) (f e) (table t) (table u))", "",
		"(join (e d) (b a) (table u) (table t))", "1 'x' 100 10 *2; 1 'x' 200 10 *8",
		"(join (a b c) (d e f) (table t) (table u))", "",
		"(join (a b c) (f e d) (table t) (project (f a) (e b) (d c) (table t)))", "1 'x' 10 *4; 1 'y' 20; 2 'x' 30 *9; 3 'z' 40",
		"(join (c a) (f d) (table t) (project (d a) (e b) (f c) (table t)))", "1 'x' 10 'x' *4; 1 'y' 20 'y'; 2 'x' 30 'x' *9; 3 'z' 40 'z'",
		// With no rows, and with itself.
		"(join (a) (g) (table t) (table none))", "",
		"(join (g) (a) (table none) (table t))", "",
		"(join (g) (k) (table none) (table once))", "",
		"(join (k) (k) (table once) (table once))", "1",
		"(join (k) (a) (table once) (table t))", "1 'x' 10 *2; 1 'y' 20",
		"(join (a) (k) (table t) (table once))", "1 'x' 10 *2; 1 'y' 20",
		"(join (a b c) (a b c) (table t) (table t))", "1 'x' 10 *4; 1 'y' 20; 2 'x' 30 *9; 3 'z' 40",
		"(join (a) (x) (table t) (project (x a) (table t)))", "1 'x' 10 *6; 1 'y' 20 *3; 2 'x' 30 *9; 3 'z' 40",
		// Names that stand on both sides.
		"(join (a) (a) (project (a a) (table t)) (project (b b) (a a) (c c) (table t)))", "1 'x' 10 *6; 1 'y' 20 *3; 2 'x' 30 *9; 3 'z' 40",
		"(join (p) (a) (project (p a) (table t)) (project (q c) (a a) (table t)))", "1 10 *6; 1 20 *3; 2 30 *9; 3 40",
		"(join (a) (p) (project (a a) (q 0) (table t)) (project (p a) (r 1) (table t)))", "1 0 1 *9; 2 0 1 *9; 3 0 1",
	)
	// All pairs, and the keys as unlike as may be.
	pair := []eval.Table{table("t: a Int", "-1 *3; 0; 7 *20"), table("u: b Int, c Text", "-2 ''; -1 'p' *2; 7 '' *5; 7 'p'; 9223372036854775807 ''")}
	each(t, pair,
		"(join (a) (b) (table t) (table u))", "-1 'p' *6; 7 '' *100; 7 'p' *20",
		"(join (a) (b) (project (a 0) (table t)) (project (b 0) (c c) (table u)))", "0 '' *168; 0 'p' *72",
	)
}

// TestP111JoinPlaces joins tables of several columns on each pair of lists of columns, of which the right keys are left out of the result.
func TestP111JoinPlaces(t *testing.T) {
	l := []eval.Table{
		table("t: a Int, b Int, c Int", "0 1 2 *2; 1 2 0 *3; 1 1 1; 2 2 0 *5"),
		table("u: d Int, e Int, f Int", "0 2 1 *7; 1 0 2; 1 1 1 *2; 2 1 0 *3; 2 2 1"),
	}
	l[0].Rows, _ = zset.Make(l[0].Rows)
	keys := [][]int{{0}, {1}, {2}, {0, 1}, {1, 0}, {0, 2}, {2, 0}, {1, 2}, {2, 1}, {0, 1, 2}, {2, 1, 0}, {1, 2, 0}}
	some := 0
	for _, m := range keys {
		for _, n := range keys {
			if len(m) != len(n) {
				continue
			}
			var left, right []string
			for i := range m {
				left, right = append(left, l[0].Cols[m[i]].Name), append(right, l[1].Cols[n[i]].Name)
			}
			var items []api.Item
			for _, x := range l[0].Rows {
				for _, y := range l[1].Rows {
					r, equal := joined(x.Row, y.Row, m, n)
					if equal {
						items = append(items, api.Item{Row: r, T: complex(real(x.T)*real(y.T), 0)})
					}
				}
			}
			want, _ := zset.Make(items)
			some += len(want)
			gives(t, l, fmt.Sprintf("(join (%s) (%s) (table t) (table u))", strings.Join(left, " "), strings.Join(right, " ")), show(want))
		}
	}
	if some < 100 {
		t.Errorf("only %d rows in all", some)
	}
}

// joined returns x with the values of y behind it that are no keys, and whether the keys are equal.
func joined(x, y api.Row, m, n []int) (api.Row, bool) {
	r, equal := append(api.Row{}, x...), true
	isKey := map[int]bool{}
	for i := range m {
		equal = equal && x[m[i]] == y[n[i]]
		isKey[n[i]] = true
	}
	for i, v := range y {
		if !isKey[i] {
			r = append(r, v)
		}
	}
	return r, equal
}

func TestP111Union(t *testing.T) {
	l := []eval.Table{
		table("t: a Int, b Text", "1 'x' *2; 2 'y'"),
		table("u: c Int, d Text", "0 'z'; 1 'x' *3; 2 'x'; 9 '' *4"),
		table("none: b Int, a Text", ""),
	}
	each(t, l,
		"(union (table t) (table t))", "1 'x' *4; 2 'y' *2",
		"(union (table t) (table u))", "0 'z'; 1 'x' *5; 2 'x'; 2 'y'; 9 '' *4",
		"(union (table u) (table t))", "0 'z'; 1 'x' *5; 2 'x'; 2 'y'; 9 '' *4",
		"(union (table t) (table none))", "1 'x' *2; 2 'y'",
		"(union (table none) (table t))", "1 'x' *2; 2 'y'",
		"(union (table none) (table none))", "",
		// The names are those of the first Kid.
		"(filter (eq a 1) (union (table t) (table u)))", "1 'x' *5",
		"(filter (eq c 1) (union (table u) (table t)))", "1 'x' *5",
		"(filter (eq c 1) (union (table t) (table u)))", "ErrName",
		"(project (x (cat a \"!\")) (union (table none) (table u)))", "'!' *4; 'x!' *4; 'z!'",
		"(group (b) (n count) (union (table t) (table u)))", "'' 4; 'x' 6; 'y' 1; 'z' 1",
		"(join (c) (a) (union (table u) (table t)) (table t))", "1 'x' 'x' *10; 2 'x' 'y'; 2 'y' 'y'",
		"(union (union (table t) (table t)) (union (table t) (table t)))", "1 'x' *8; 2 'y' *4",
		"(union (project (x a) (table t)) (project (y (neg c)) (table u)))", "-9 *4; -2; -1 *3; 0; 1 *2; 2",
	)
	for _, rows := range []string{"", "5", "5 *9", "5; 6; 7 *2"} {
		each(t, []eval.Table{table("t: a Int", rows), table("u: a Int", "")}, "(union (table t) (table u))", rows, "(union (table u) (table t))", rows)
	}
}

func TestP111Distinct(t *testing.T) {
	for rows, want := range map[string]string{
		"":                       "",
		"1":                      "1",
		"1 *2":                   "1",
		"1 *512":                 "1",
		"-1 *3; 1; 5 *100":       "-1; 1; 5",
		"1 *256; 2 *256":         "1; 2",
		"1 *2; 2 *2; 3 *2; 4 *2": "1; 2; 3; 4",
	} {
		l := one("a Int", rows)
		each(t, l,
			"(distinct (table t))", want,
			"(distinct (distinct (table t)))", want,
			"(union (distinct (table t)) (distinct (table t)))", show(doubled(want)),
		)
	}
	each(t, one("a Int, b Text", "1 'x' *3; 1 'y'; 2 'x' *2"),
		"(distinct (table t))", "1 'x'; 1 'y'; 2 'x'",
		"(distinct (project (x a) (table t)))", "1; 2",
		"(distinct (project (x b) (table t)))", "'x'; 'y'",
		"(filter (eq a 1) (distinct (table t)))", "1 'x'; 1 'y'",
	)
}

// doubled returns the rows of a text, each twice.
func doubled(s string) api.Set {
	l := set(s)
	for i := range l {
		l[i].T *= 2
	}
	return l
}

func TestExamples(t *testing.T) {
	each(t, one("a Int, b Text", "1 'x'; 2 'y' *3"), "(union (table t) (table t))", "1 'x' *2; 2 'y' *6")
	each(t, one("a Int", "-4611686018427387904; 4611686018427387904 *2"), "(group () (s sum a) (table t))", "4611686018427387904")
	each(t, one("a Int", ""), "(group () (s sum a) (table t))", "", "(group (a) (n count) (table t))", "")
}
