package plan_test

import (
	"fmt"
	"math"
	"reflect"
	"slices"
	"strings"
	"testing"

	"confluence/api"
	"confluence/plan"
)

// words are those that are no names.
var words = []string{"table", "filter", "project", "join", "union", "distinct", "group", "count", "sum", "min", "max", "add", "sub", "mul", "neg", "eq", "lt", "and", "or", "not", "cat", "len", "if"}

// forms are the words that begin a plan.
var forms = words[:7]

// longName is as long as a name may be.
var longName = strings.Repeat("q", api.MaxName)

func table(name string) api.Plan { return api.Plan{Kind: api.Table, Name: name} }

func filter(e api.Expr, p api.Plan) api.Plan {
	return api.Plan{Kind: api.Filter, Exprs: []api.Expr{e}, Kids: []api.Plan{p}}
}

func project(cols []string, exprs []api.Expr, p api.Plan) api.Plan {
	return api.Plan{Kind: api.Project, Cols: cols, Exprs: exprs, Kids: []api.Plan{p}}
}

func join(left, right []string, p, q api.Plan) api.Plan {
	return api.Plan{Kind: api.Join, Left: left, Right: right, Kids: []api.Plan{p, q}}
}

func union(p, q api.Plan) api.Plan { return api.Plan{Kind: api.Union, Kids: []api.Plan{p, q}} }

func distinct(p api.Plan) api.Plan { return api.Plan{Kind: api.Distinct, Kids: []api.Plan{p}} }

func group(left []string, aggs []api.Agg, p api.Plan) api.Plan {
	return api.Plan{Kind: api.Group, Left: left, Aggs: aggs, Kids: []api.Plan{p}}
}

func agg(name, fun, col string) api.Agg { return api.Agg{Name: name, Fun: fun, Col: col} }

func list[T any](l ...T) []T { return l }

func column(s string) api.Expr { return api.Expr{Kind: api.Column, S: s} }

func number(n int64) api.Expr { return api.Expr{Kind: api.Number, N: n} }

func quoted(s string) api.Expr { return api.Expr{Kind: api.String, S: s} }

func apply(op string, kids ...api.Expr) api.Expr { return api.Expr{Kind: api.Apply, S: op, Kids: kids} }

// same compares everything of two plans. A list without elements may be nil or not.
func same(p, q api.Plan) bool {
	return p.Kind == q.Kind && p.Name == q.Name && slices.EqualFunc(p.Exprs, q.Exprs, sameExpr) &&
		slices.Equal(p.Cols, q.Cols) && slices.Equal(p.Left, q.Left) && slices.Equal(p.Right, q.Right) &&
		slices.Equal(p.Aggs, q.Aggs) && slices.EqualFunc(p.Kids, q.Kids, same)
}

func sameExpr(a, b api.Expr) bool {
	return a.Kind == b.Kind && a.S == b.S && a.N == b.N && slices.EqualFunc(a.Kids, b.Kids, sameExpr)
}

func tell(x any) string { return fmt.Sprintf("%.600s", fmt.Sprintf("%+v", x)) }

// reads checks that Read of a text is a plan, and Print of it another text.
func reads(t *testing.T, s string, want api.Plan, printed string) {
	t.Helper()
	got, why, at := plan.Read(s)
	if why != api.OK || at != 0 {
		t.Errorf("Read of %.200q: error %d at %d", s, why, at)
		return
	}
	if !same(got, want) {
		t.Errorf("Read of %.200q: %s, not %s", s, tell(got), tell(want))
	}
	if p := plan.Print(want); p != printed {
		t.Errorf("Print of what %.200q represents: %.200q, not %.200q", s, p, printed)
	}
	again, why, at := plan.Read(printed)
	if why != api.OK || at != 0 || !same(again, want) {
		t.Errorf("Read of %.200q: %s, error %d at %d", printed, tell(again), why, at)
	}
}

// failsAlone checks that Read of a text is an error, with nothing beside it but its offset.
func failsAlone(t *testing.T, s string, why api.Errno, at int) {
	t.Helper()
	got, w, a := plan.Read(s)
	if w != why || a != at {
		t.Errorf("Read of %.200q: error %d at %d, not %d at %d", s, w, a, why, at)
	}
	if w != api.OK && !same(got, api.Plan{}) {
		t.Errorf("Read of %.200q: %s beside error %d", s, tell(got), w)
	}
}

// around are pairs of what may stand before and behind a plan.
var around = [][2]string{
	{" \n", " "},
	{"(filter 1 ", ")"},
	{"(project (a b) (b 3)", ")"},
	{"(join (a) (b) ", " (table t))"},
	{"(join (a) (b) (table t) ", ")"},
	{"(union ", " (table t))"},
	{"(union (table t)", ")"},
	{"(distinct\n", ")"},
	{"(group (a) (n count)", ")"},
	{"(distinct (union (filter a (table t)) (distinct ", ")))"},
}

// fails checks that Read of a text is an error, alone and within every form. Nothing that is wrong further right matters.
func fails(t *testing.T, s string, why api.Errno, at int) {
	t.Helper()
	failsAlone(t, s, why, at)
	for _, a := range around {
		failsAlone(t, a[0]+s+a[1], why, at+len(a[0]))
	}
	failsAlone(t, "(union "+s+" (table))", why, at+7)
	failsAlone(t, "(union "+s+" a)", why, at+7)
	failsAlone(t, "(union "+s+" (table table))", why, at+7)
	failsAlone(t, "(join (a) () "+s+" (filter (neg) 5))", why, at+13)
}

func TestP91ReadOfEachForm(t *testing.T) {
	u := table("u")
	for s, want := range map[string]api.Plan{
		"(table t)":                                           table("t"),
		"(table " + longName + ")":                            table(longName),
		"(filter a (table u))":                                filter(column("a"), u),
		"(filter 1 (table u))":                                filter(number(1), u),
		`(filter "x" (table u))`:                              filter(quoted("x"), u),
		"(filter (lt a 5) (table u))":                         filter(apply("lt", column("a"), number(5)), u),
		"(project (a b) (table u))":                           project(list("a"), list(column("b")), u),
		"(project (a b) (b (neg a)) (table u))":               project(list("a", "b"), list(column("b"), apply("neg", column("a"))), u),
		`(project (a 1) (b "\00") (c 1) (table u))`:           project(list("a", "b", "c"), list(number(1), quoted("\x00"), number(1)), u),
		"(project (a 1) (a 1) (table u))":                     project(list("a", "a"), list(number(1), number(1)), u),
		"(join (a) (b) (table t) (table u))":                  join(list("a"), list("b"), table("t"), u),
		"(join (a b) (c d) (table t) (table u))":              join(list("a", "b"), list("c", "d"), table("t"), u),
		"(join () () (table t) (table u))":                    join(nil, nil, table("t"), u),
		"(join (a b c) (d) (table t) (table u))":              join(list("a", "b", "c"), list("d"), table("t"), u),
		"(join () (a a) (table t) (table u))":                 join(nil, list("a", "a"), table("t"), u),
		"(join (a) () (table t) (table u))":                   join(list("a"), nil, table("t"), u),
		"(union (table t) (table u))":                         union(table("t"), u),
		"(union (table u) (table u))":                         union(u, u),
		"(distinct (table u))":                                distinct(u),
		"(group () (table u))":                                group(nil, nil, u),
		"(group (a) (table u))":                               group(list("a"), nil, u),
		"(group (a b a) (table u))":                           group(list("a", "b", "a"), nil, u),
		"(group () (n count) (table u))":                      group(nil, list(agg("n", "count", "")), u),
		"(group () (n sum a) (table u))":                      group(nil, list(agg("n", "sum", "a")), u),
		"(group () (n min a) (table u))":                      group(nil, list(agg("n", "min", "a")), u),
		"(group () (n max a) (table u))":                      group(nil, list(agg("n", "max", "a")), u),
		"(group (a b) (n count) (m max b) (table u))":         group(list("a", "b"), list(agg("n", "count", ""), agg("m", "max", "b")), u),
		"(group (a) (a sum a) (a count) (a count) (table u))": group(list("a"), list(agg("a", "sum", "a"), agg("a", "count", ""), agg("a", "count", "")), u),
	} {
		reads(t, s, want, s)
		reads(t, strings.ReplaceAll(strings.ReplaceAll(s, " (", "("), ") ", ")"), want, s)
		reads(t, "\n "+strings.ReplaceAll(strings.ReplaceAll(s, " ", "\n \n"), ")", " ) "), want, s)
		reads(t, "(distinct "+s+")", distinct(want), "(distinct "+s+")")
		reads(t, "(filter a "+s+")", filter(column("a"), want), "(filter a "+s+")")
		reads(t, "(project (a 1) "+s+")", project(list("a"), list(number(1)), want), "(project (a 1) "+s+")")
		reads(t, "(union "+s+" (table z))", union(want, table("z")), "(union "+s+" (table z))")
		reads(t, "(union (table z) "+s+")", union(table("z"), want), "(union (table z) "+s+")")
		reads(t, "(join (a) (b) "+s+" "+s+")", join(list("a"), list("b"), want, want), "(join (a) (b) "+s+" "+s+")")
		reads(t, "(group () "+s+")", group(nil, nil, want), "(group () "+s+")")
	}
}

func TestP91TheExamples(t *testing.T) {
	reads(t, "( filter (lt a 5)(table t) )", filter(apply("lt", column("a"), number(5)), table("t")), "(filter (lt a 5) (table t))")
	failsAlone(t, "(table 5)", api.ErrForm, 0)
	failsAlone(t, "(project (table t))", api.ErrForm, 0)
	reads(t, "(group () (n count) (table t))", group(nil, list(agg("n", "count", "")), table("t")), "(group () (n count) (table t))")
	failsAlone(t, "a", api.ErrForm, 0)
	failsAlone(t, "\n a ", api.ErrForm, 2)
}

func TestP91NumbersAndTextsArePrintedAnew(t *testing.T) {
	reads(t, "(filter -000 (table t))", filter(number(0), table("t")), "(filter 0 (table t))")
	reads(t, "(filter 0099 (table t))", filter(number(99), table("t")), "(filter 99 (table t))")
	reads(t, "(filter -9223372036854775808 (table t))", filter(number(math.MinInt64), table("t")), "(filter -9223372036854775808 (table t))")
	reads(t, `(filter "\61\22\5c\7f\ff" (table t))`, filter(quoted("a\"\\\x7f\xff"), table("t")), `(filter "a\22\5c\7f\ff" (table t))`)
	reads(t, `(project(a"")(b-1)(table t))`, project(list("a", "b"), list(quoted(""), number(-1)), table("t")), `(project (a "") (b -1) (table t))`)
}

func TestP91WhatIsNoPlanAtAll(t *testing.T) {
	for _, s := range []string{"a", "table", "foo", "5", "-1", `"x"`, `"table"`, "()", "(a)", "(a b)", "(5)", "(5 t)", `("x")`, `("table" t)`, "((table t))", "((table) t)", "(())", "(() (table t))", "(1 (table t))", "((distinct) (table t))"} {
		fails(t, s, api.ErrForm, 0)
	}
}

func TestP91WordsThatBeginNoForm(t *testing.T) {
	others := slices.Concat(words[7:], []string{"a", "n", "tabl", "tables", "filters", "projec", "joint", "unions", "distinctt", "groups", "groupby", "select", longName, strings.Repeat("table", 20)})
	for _, word := range others {
		for _, parts := range []string{"", " t", " (table t)", " a (table t)", " (table t) (table t)", " (a b) (table t)", " (a) (b) (table t) (table t)", " (a) (n count) (table t)", " table", " ()"} {
			fails(t, "("+word+parts+")", api.ErrForm, 0)
		}
	}
}

// outcome is what Read makes of a part: an error, and how far behind the part's beginning; or one of the whole plan, at its beginning.
type outcome struct {
	s     string
	why   api.Errno
	at    int
	whole bool
}

// isWhole is what Read makes of parts that are not of their form.
func isWhole(l ...string) []outcome {
	var all []outcome
	for _, s := range l {
		all = append(all, outcome{s: s, why: api.ErrForm, whole: true})
	}
	return all
}

// parts tells for each sort of part what Read makes of it.
var parts = map[string][]outcome{
	"name": append(isWhole("5", "-1", `"x"`, `"t"`, "()", "(t)", "(table t)"),
		outcome{s: "t"}, outcome{s: longName}, outcome{s: longName + "q", why: api.ErrName}, outcome{s: "table", why: api.ErrName}, outcome{s: "count", why: api.ErrName}, outcome{s: "if", why: api.ErrName}),
	"expression": {
		{s: "a"}, {s: "5"}, {s: `"x"`}, {s: "(neg a)"}, {s: longName}, {s: "(add (neg 5) (len \"\"))"},
		{s: longName + "q", why: api.ErrName}, {s: "table", why: api.ErrName}, {s: "count", why: api.ErrName},
		{s: "()", why: api.ErrForm}, {s: "(a)", why: api.ErrForm}, {s: "(a b)", why: api.ErrForm}, {s: "(5)", why: api.ErrForm}, {s: "(table t)", why: api.ErrForm}, {s: "((neg 1))", why: api.ErrForm},
		{s: "(neg)", why: api.ErrCount}, {s: "(neg a b)", why: api.ErrCount}, {s: "(if 1 2)", why: api.ErrCount}, {s: "(add table)", why: api.ErrCount},
		{s: "(neg table)", why: api.ErrName, at: 5}, {s: "(add a (neg (foo)))", why: api.ErrForm, at: 12}, {s: "(add 1 (neg 1 2))", why: api.ErrCount, at: 7},
	},
	"plan": {
		{s: "(table t)"}, {s: "(distinct (table t))"}, {s: "(group () (table t))"},
		{s: "a", why: api.ErrForm}, {s: "table", why: api.ErrForm}, {s: "5", why: api.ErrForm}, {s: `"x"`, why: api.ErrForm}, {s: "()", why: api.ErrForm}, {s: "(a b c)", why: api.ErrForm}, {s: "(table)", why: api.ErrForm}, {s: "(table 5)", why: api.ErrForm}, {s: "(neg a)", why: api.ErrForm}, {s: "((table t))", why: api.ErrForm},
		{s: "(table add)", why: api.ErrName, at: 7}, {s: "(distinct (table (t)))", why: api.ErrForm, at: 10}, {s: "(filter (neg) (table t))", why: api.ErrCount, at: 8}, {s: "(distinct t)", why: api.ErrForm, at: 10},
	},
	"names": append(isWhole("a", "table", "5", `"x"`, "(5)", "(a 5)", "(5 a)", `("x")`, `(a "x")`, "(())", "(a ())", "(a (b))", "((a))", "(a (table t))", "(a b c d 5)", "(table 5)"),
		outcome{s: "()"}, outcome{s: "(a)"}, outcome{s: "(a b)"}, outcome{s: "(a a a a a a a a a)"}, outcome{s: "(" + longName + ")"},
		outcome{s: "(table)", why: api.ErrName, at: 1}, outcome{s: "(a table)", why: api.ErrName, at: 3}, outcome{s: "(a b sum max)", why: api.ErrName, at: 5}, outcome{s: "(" + longName + "q a)", why: api.ErrName, at: 1}),
	"column": append(isWhole("a", "5", `"x"`, "()", "(a)", "(5)", "(5 5)", `("x" 5)`, "((a) 5)", "(() 5)", "(a 5 5)", "(a b c)", "(a b 5 5)", "((a 5))", "(table)", "(table (a) 5)"),
		outcome{s: "(a 5)"}, outcome{s: "(a b)"}, outcome{s: "(" + longName + ` "x")`}, outcome{s: "(a (neg 5))"},
		outcome{s: "(table 5)", why: api.ErrName, at: 1}, outcome{s: "(table table)", why: api.ErrName, at: 1}, outcome{s: "(" + longName + "q (neg))", why: api.ErrName, at: 1},
		outcome{s: "(a table)", why: api.ErrName, at: 3}, outcome{s: "(a ())", why: api.ErrForm, at: 3}, outcome{s: "(a (foo 5))", why: api.ErrForm, at: 3}, outcome{s: "(a (neg))", why: api.ErrCount, at: 3}, outcome{s: "(a (neg sum))", why: api.ErrName, at: 8}),
	"function": append(isWhole("a", "sum", "count", "5", `"x"`, "()", "(n)", "(count)", "(n sum c d)", "(n count c d)", "(n 5)", `(n "count")`, "(n (count))", "(n ())", "(5 count)", `("n" count)`, "((n) count)", "(5 sum c)", "(n 5 c)", `(n "sum" c)`, "(n (sum) c)", "(n sum 5)", `(n sum "c")`, "(n sum (c))", "(n sum ())", "(n (sum c))", "((n sum c))", "(table foo 5)"),
		outcome{s: "(n count)"}, outcome{s: "(n sum c)"}, outcome{s: "(n min c)"}, outcome{s: "(n max c)"}, outcome{s: "(n max n)"}, outcome{s: "(" + longName + " sum " + longName + ")"},
		outcome{s: "(n sum)", why: api.ErrForm, at: 3}, outcome{s: "(n min)", why: api.ErrForm, at: 3}, outcome{s: "(n max)", why: api.ErrForm, at: 3}, outcome{s: "(n count c)", why: api.ErrForm, at: 3}, outcome{s: "(n count table)", why: api.ErrForm, at: 3},
		outcome{s: "(n foo)", why: api.ErrForm, at: 3}, outcome{s: "(n foo c)", why: api.ErrForm, at: 3}, outcome{s: "(n table)", why: api.ErrForm, at: 3}, outcome{s: "(n add c)", why: api.ErrForm, at: 3}, outcome{s: "(n summ c)", why: api.ErrForm, at: 3}, outcome{s: "(n c sum)", why: api.ErrForm, at: 3},
		outcome{s: "(count count)", why: api.ErrName, at: 1}, outcome{s: "(table foo c)", why: api.ErrName, at: 1}, outcome{s: "(" + longName + "q sum c)", why: api.ErrName, at: 1},
		outcome{s: "(n sum table)", why: api.ErrName, at: 7}, outcome{s: "(n max " + longName + "q)", why: api.ErrName, at: 7}, outcome{s: "(n min min)", why: api.ErrName, at: 7}),
}

// part is one of a form: its sort, and a text without an error.
type part struct{ sort, s string }

// formed are plans of each form with what they consist of.
var formed = []struct {
	word  string
	parts []part
}{
	{"table", list(part{"name", "t"})},
	{"filter", list(part{"expression", "a"}, part{"plan", "(table t)"})},
	{"project", list(part{"column", "(a 1)"}, part{"plan", "(table t)"})},
	{"project", list(part{"column", "(a 1)"}, part{"column", "(b (neg a))"}, part{"column", "(c \"x\")"}, part{"plan", "(table t)"})},
	{"join", list(part{"names", "(a)"}, part{"names", "(b c)"}, part{"plan", "(table t)"}, part{"plan", "(table u)"})},
	{"union", list(part{"plan", "(table t)"}, part{"plan", "(table u)"})},
	{"distinct", list(part{"plan", "(table t)"})},
	{"group", list(part{"names", "(a b)"}, part{"plan", "(table t)"})},
	{"group", list(part{"names", "()"}, part{"function", "(n count)"}, part{"plan", "(table t)"})},
	{"group", list(part{"names", "(a)"}, part{"function", "(n sum c)"}, part{"function", "(m count)"}, part{"function", "(o min c)"}, part{"plan", "(table t)"})},
}

// text returns a plan of some parts, and the offset of each of them.
func text(word string, l []string) (string, []int) {
	s := "(" + word
	var at []int
	for _, x := range l {
		s += " "
		at = append(at, len(s))
		s += x
	}
	return s + ")", at
}

func TestP91EachPartOfEachForm(t *testing.T) {
	for _, form := range formed {
		for i, x := range form.parts {
			for _, out := range parts[x.sort] {
				var l []string
				for _, y := range form.parts {
					l = append(l, y.s)
				}
				l[i] = out.s
				s, at := text(form.word, l)
				switch {
				case out.why == api.OK:
					if _, why, _ := plan.Read(s); why != api.OK {
						t.Errorf("Read of %.200q: error %d", s, why)
					}
					if p, _, _ := plan.Read(s); plan.Print(p) != s {
						t.Errorf("Print of %.200q: %.200q", s, plan.Print(p))
					}
				case out.whole:
					fails(t, s, api.ErrForm, 0)
				default:
					fails(t, s, out.why, at[i]+out.at)
				}
			}
		}
	}
}

// In a place of a form, an error of another place further right doesn't matter, but one of the form does.
func TestP91TheFirstErrorOfTwoPlaces(t *testing.T) {
	for _, form := range formed {
		for i := range form.parts {
			for k := i + 1; k < len(form.parts); k++ {
				for _, a := range parts[form.parts[i].sort] {
					for _, b := range parts[form.parts[k].sort] {
						var l []string
						for _, y := range form.parts {
							l = append(l, y.s)
						}
						l[i], l[k] = a.s, b.s
						s, at := text(form.word, l)
						switch {
						case a.whole || b.whole:
							failsAlone(t, s, api.ErrForm, 0)
						case a.why != api.OK:
							failsAlone(t, s, a.why, at[i]+a.at)
						case b.why != api.OK:
							failsAlone(t, s, b.why, at[k]+b.at)
						default:
							failsAlone(t, s, api.OK, 0)
						}
					}
				}
			}
		}
	}
}

func TestP91PartsThatAreMissing(t *testing.T) {
	for _, word := range forms {
		fails(t, "("+word+")", api.ErrForm, 0)
	}
	for _, s := range []string{
		"(filter a)", "(filter (table t))", "(project (table t))", "(project (a 1))", "(project (distinct (table t)))",
		"(join (a) (table t) (table u))", "(join (table t) (table u))", "(join (a) (b) (table t))", "(join (a) (b))",
		"(union (table t))", "(group (table t))", "(group (a))", "(group ())", "(group (distinct (table t)) (table t))",
	} {
		fails(t, s, api.ErrForm, 0)
	}
	// What is last is always taken for a plan.
	fails(t, "(project (a 1) (b 2))", api.ErrForm, 15)
	fails(t, "(group (a) (n count))", api.ErrForm, 11)
	fails(t, "(group () (n sum c) (m count))", api.ErrForm, 20)
	// A function may be taken for the names.
	fails(t, "(group (n count) (table t))", api.ErrName, 10)
	fails(t, "(group (n sum c) (m count) (table t))", api.ErrName, 10)
}

func TestP91PartsThatAreThereTwice(t *testing.T) {
	for _, s := range []string{
		"(table t t)", "(table t u)", "(table table t)", "(table (t) (t))",
		"(filter a a (table t))", "(filter a (table t) (table t))", "(filter a b c d e)",
		"(project (a 1) (filter a (table t)) (table t))", "(project (a 1) a (table t))",
		"(join (a) (b) (c) (table t) (table u))", "(join (a) (b) (table t) (table u) (table v))", "(join (a) (b) (table t) (table u) ())",
		"(union (table t) (table u) (table v))", "(distinct (table t) (table t))", "(distinct (table t) a)",
		"(group (a) (a) (table t))", "(group () () (table t))", "(group (a) (distinct (table t)) (table t))", "(group (a b c d) (a b c d) (table t))",
	} {
		fails(t, s, api.ErrForm, 0)
	}
	// A plan may be taken for a column or a function.
	fails(t, "(project (a 1) (table t) (table t))", api.ErrName, 16)
	fails(t, "(project (a 1) (distinct (table t)) (table t))", api.ErrName, 16)
	fails(t, "(group (a) (table t) (table t))", api.ErrName, 12)
	fails(t, "(group (a b) (a b) (table t))", api.ErrForm, 16)
	fails(t, "(group (a b c) (a b c) (table t))", api.ErrForm, 18)
}

func TestP91TheFormCountsAheadOfItsParts(t *testing.T) {
	fails(t, "(table table)", api.ErrName, 7)
	fails(t, "(filter table (table))", api.ErrName, 8)
	fails(t, "(filter table (table) a)", api.ErrForm, 0)
	fails(t, "(project (table (neg)) (a (neg)) (table))", api.ErrName, 10)
	fails(t, "(project (b (neg)) (table table) (table))", api.ErrCount, 12)
	fails(t, "(project (table (neg)) (a) (table))", api.ErrForm, 0)
	fails(t, "(join (table) (sum) (table) (table))", api.ErrName, 7)
	fails(t, "(join (a) (sum) (table) (table))", api.ErrName, 11)
	fails(t, "(join (a) (b) (table) (table table))", api.ErrForm, 14)
	fails(t, "(join (a) (b) (table sum) (table))", api.ErrName, 21)
	fails(t, "(join (table) (5) (table t) (table t))", api.ErrForm, 0)
	fails(t, "(union (table table) (table))", api.ErrName, 14)
	fails(t, "(union (table) (table table))", api.ErrForm, 7)
	fails(t, "(union (table t) (table table))", api.ErrName, 24)
	fails(t, "(union (filter (neg) (table t)) (table))", api.ErrCount, 15)
	fails(t, "(group (table) (sum foo table) (table))", api.ErrName, 8)
	fails(t, "(group (a) (sum foo table) (table))", api.ErrName, 12)
	fails(t, "(group (a) (n foo table) (table))", api.ErrForm, 14)
	fails(t, "(group (a) (n sum table) (table))", api.ErrName, 18)
	fails(t, "(group (a) (n sum b) (sum sum sum) (table))", api.ErrName, 22)
	fails(t, "(group (a) (n sum b) (m min sum) (o count c) (table))", api.ErrName, 28)
	fails(t, "(group (a) (n sum b) (table))", api.ErrForm, 21)
	fails(t, "(group (table) (sum foo table) (n) (table))", api.ErrForm, 0)
	fails(t, "(distinct (union (table table) (foo) a))", api.ErrForm, 10)
}

func TestP91ErrorsOfTheText(t *testing.T) {
	failsAlone(t, "", api.ErrEnd, 0)
	failsAlone(t, " \n", api.ErrEnd, 2)
	failsAlone(t, "(", api.ErrEnd, 1)
	failsAlone(t, ")", api.ErrForm, 0)
	failsAlone(t, "(table t", api.ErrEnd, 8)
	failsAlone(t, "(distinct (table t)", api.ErrEnd, 19)
	failsAlone(t, `(filter "x (table t))`, api.ErrEnd, 21)
	failsAlone(t, `(filter "x\2`, api.ErrEnd, 12)
	failsAlone(t, `(filter "\xx" (table t))`, api.ErrForm, 9)
	failsAlone(t, "(filter \"\n\" (table t))", api.ErrForm, 9)
	failsAlone(t, `(filter "`+strings.Repeat("x", 41)+`" (table t))`, api.ErrLong, 8)
	failsAlone(t, "(filter 9223372036854775808 (table t))", api.ErrForm, 8)
	failsAlone(t, "(filter - (table t))", api.ErrForm, 8)
	failsAlone(t, "(table T)", api.ErrForm, 7)
	failsAlone(t, "(table a_b)", api.ErrForm, 8)
	failsAlone(t, "(table\tt)", api.ErrForm, 6)
	failsAlone(t, "(table t))", api.ErrForm, 9)
	failsAlone(t, "(table t) (table t)", api.ErrTail, 10)
	failsAlone(t, "(table t) 5", api.ErrTail, 10)
	failsAlone(t, "a b", api.ErrTail, 2)
	failsAlone(t, "\xff", api.ErrForm, 0)
	// They all come ahead of what is wrong with the trees, wherever that is.
	failsAlone(t, "(table 5", api.ErrEnd, 8)
	failsAlone(t, "(foo (table t)) (table t)", api.ErrTail, 16)
	failsAlone(t, "(table table) #", api.ErrForm, 14)
	failsAlone(t, "(foo) "+strings.Repeat(" ", 595), api.ErrLong, 0)
	failsAlone(t, strings.Repeat("#", 601), api.ErrLong, 0)
	failsAlone(t, strings.Repeat("#", 600), api.ErrForm, 0)
}

// nested returns n brackets around a text, with the text's offset.
func nested(n int, s string) (string, int) {
	return strings.Repeat("(distinct ", n) + s + strings.Repeat(")", n), 10 * n
}

func TestP91AsDeepAsBracketsMayBe(t *testing.T) {
	want := table("t")
	for n := range api.MaxDeep {
		s, _ := nested(n, "(table t)")
		reads(t, s, want, s)
		want = distinct(want)
	}
	for n := api.MaxDeep; n < 40; n++ {
		s, _ := nested(n, "(table t)")
		failsAlone(t, s, api.ErrDeep, 120)
	}
	for n, s := range map[int]string{11: "(table t)", 10: "(filter (neg a) (table t))", 9: "(filter (neg (neg a)) (table t))", 8: "(project (a (neg (neg 1))) (table t))"} {
		good, _ := nested(n, s)
		p, why, at := plan.Read(good)
		if why != api.OK || at != 0 || plan.Print(p) != good {
			t.Errorf("Read of %.200q: error %d at %d; %.200q", good, why, at, plan.Print(p))
		}
		bad, _ := nested(n+1, s)
		failsAlone(t, bad, api.ErrDeep, map[int]int{11: 120, 10: 118, 9: 113, 8: 107}[n])
	}
	failsAlone(t, "(foo 5 "+strings.Repeat("(", 12), api.ErrDeep, 18)
	failsAlone(t, "(join (a) (a) (table t) (table t)"+strings.Repeat("(", 12), api.ErrDeep, 44)
}

// names returns names and the blanks between them, of n bytes in all.
func names(n int) string {
	first := "a"
	if n%2 == 0 {
		first = "ab"
	}
	return first + strings.Repeat(" a", (n-1)/2)
}

// loose returns a plan whose text, as it is printed, has n bytes; tight returns it without the blanks that need not be.
func loose(n int) string { return "(group (" + names(n-20) + ") (table t))" }

func tight(n int) string { return "(group(" + names(n-20) + ")(table t))" }

func TestP91AsLongAsATextMayBe(t *testing.T) {
	for _, n := range []int{21, 22, 300, 598, 599, 600} {
		if len(loose(n)) != n || len(tight(n)) != n-2 {
			t.Fatal(n, len(loose(n)), len(tight(n)))
		}
		p := group(strings.Fields(names(n-20)), nil, table("t"))
		reads(t, loose(n), p, loose(n))
		reads(t, tight(n), p, loose(n))
		reads(t, tight(n)+strings.Repeat("\n", 602-n), p, loose(n))
	}
	for _, n := range []int{601, 602, 603, 700, 10000} {
		failsAlone(t, loose(n), api.ErrLong, 0)
		failsAlone(t, tight(n), api.ErrLong, 0)
		failsAlone(t, " "+tight(n), api.ErrLong, 0)
	}
	failsAlone(t, "(table t)"+strings.Repeat(" ", 591), api.OK, 0)
	failsAlone(t, "(table t)"+strings.Repeat(" ", 592), api.ErrLong, 0)
	failsAlone(t, strings.Repeat(" ", 592)+"(table t)", api.ErrLong, 0)
	failsAlone(t, "(filter "+strings.Repeat("0", 581)+" (table t))", api.OK, 0)
	failsAlone(t, "(filter "+strings.Repeat("0", 582)+" (table t))", api.ErrLong, 0)
}

// Each bracket but the first may stand without a blank, but is printed with one.
func TestP91WhatIsTooLongWhenItIsPrinted(t *testing.T) {
	for aggs := range 60 {
		head, tail := "(group()"+strings.Repeat("(n count)", aggs)+"(group(", ")(table t)))"
		more := aggs + 4
		for _, n := range []int{api.MaxPlan - more - 1, api.MaxPlan - more, api.MaxPlan - more + 1, api.MaxPlan - more + 2, api.MaxPlan - 1, api.MaxPlan} {
			left := n - len(head) - len(tail)
			if left < 1 {
				continue
			}
			s := head + names(left) + tail
			if len(s) != n {
				t.Fatalf("%d bytes, not %d: %.200q", len(s), n, s)
			}
			if n+more > api.MaxPlan {
				failsAlone(t, s, api.ErrLong, 0)
				continue
			}
			p, why, at := plan.Read(s)
			if why != api.OK || at != 0 || len(plan.Print(p)) != n+more {
				t.Errorf("%d bytes that are printed as %d: error %d at %d", n, n+more, why, at)
			}
		}
	}
	// It is asked last of all.
	s := "(union" + tight(592) + "(t))"
	if len(s) != api.MaxPlan {
		t.Fatal(len(s))
	}
	failsAlone(t, s, api.ErrForm, 596)
}

func TestP91WhatReadReturnedIsNewMemory(t *testing.T) {
	for _, form := range formed {
		var l []string
		for _, x := range form.parts {
			l = append(l, x.s)
		}
		s, _ := text(form.word, l)
		s = "(union " + s + " " + s + ")"
		p, _, _ := plan.Read(s)
		q, _, _ := plan.Read(s)
		apart(t, s, p, q)
		spoil(&q)
		again, _, _ := plan.Read(s)
		if plan.Print(p) != s || !same(p, again) {
			t.Errorf("%s: shared", s)
		}
	}
}

// span is the memory of a list, with its room.
type span struct{ from, to uintptr }

// spans returns the memory of every list in v.
func spans(v reflect.Value) []span {
	var all []span
	switch v.Kind() {
	case reflect.Struct:
		for i := range v.NumField() {
			all = append(all, spans(v.Field(i))...)
		}
	case reflect.Slice:
		if v.Cap() > 0 {
			all = append(all, span{v.Pointer(), v.Pointer() + uintptr(v.Cap())*v.Type().Elem().Size()})
		}
		for i := range v.Len() {
			all = append(all, spans(v.Index(i))...)
		}
	}
	return all
}

// apart checks that no two lists of some values share memory.
func apart(t *testing.T, what string, values ...any) {
	t.Helper()
	var all []span
	for _, v := range values {
		all = append(all, spans(reflect.ValueOf(v))...)
	}
	for i, a := range all {
		for _, b := range all[:i] {
			if a.from < b.to && b.from < a.to {
				t.Errorf("%s: lists share memory", what)
				return
			}
		}
	}
}

// spoil turns everything of p, also what its lists have room for.
func spoil(p *api.Plan) {
	p.Kind, p.Name = 99, "spoilt"
	for _, l := range [][]string{p.Cols, p.Left, p.Right} {
		l = l[:cap(l)]
		for i := range l {
			l[i] = "spoilt"
		}
	}
	aggs := p.Aggs[:cap(p.Aggs)]
	for i := range aggs {
		aggs[i] = agg("spoilt", "spoilt", "spoilt")
	}
	exprs := p.Exprs[:cap(p.Exprs)]
	for i := range exprs {
		spoilExpr(&exprs[i])
	}
	kids := p.Kids[:cap(p.Kids)]
	for i := range kids {
		spoil(&kids[i])
	}
}

func spoilExpr(e *api.Expr) {
	e.Kind, e.S, e.N = 99, "spoilt", 77
	kids := e.Kids[:cap(e.Kids)]
	for i := range kids {
		spoilExpr(&kids[i])
	}
}
