package plan_test

import (
	"math"
	"reflect"
	"slices"
	"strings"
	"testing"

	"confluence/api"
	"confluence/plan"
)

// noKinds are Kinds that no plan and no expression has.
var noKinds = []int{0, -1, -7, 8, 9, 100, 256 + api.Table, 256 + api.Union, math.MaxInt, math.MinInt}

// good are plans that Read can return, of each form.
func good() []api.Plan {
	return []api.Plan{
		table("t"),
		table(longName),
		filter(apply("lt", column("a"), number(5)), table("t")),
		filter(quoted("\x00\"x"), distinct(table("u"))),
		project(list("a", "b"), list(column("a"), apply("neg", number(math.MinInt64))), table("t")),
		project(list("a"), list(quoted(strings.Repeat("z", api.MaxText))), union(table("t"), table("u"))),
		join(list("a", "b"), list("c"), table("t"), table("u")),
		join(nil, nil, table("t"), distinct(table("t"))),
		union(table("t"), filter(column("a"), table("u"))),
		distinct(table("t")),
		distinct(distinct(distinct(table("t")))),
		group(list("a", "b"), list(agg("n", "count", ""), agg("m", "sum", "c"), agg("o", "min", "c"), agg("p", "max", "a")), table("t")),
		group(nil, nil, table("t")),
		group(list("a"), nil, union(table("t"), table("t"))),
		group(nil, list(agg("n", "count", "")), table("t")),
	}
}

// within are plans of each form that have a plan within them, in each of its places.
func within(p api.Plan) []api.Plan {
	u := table("u")
	return []api.Plan{
		filter(column("a"), p),
		project(list("a"), list(column("a")), p),
		join(list("a"), list("b"), p, u),
		join(list("a"), list("b"), u, p),
		union(p, u),
		union(u, p),
		distinct(p),
		group(list("a"), list(agg("n", "count", "")), p),
		distinct(union(u, filter(number(1), group(nil, nil, p)))),
		union(p, p),
	}
}

// prints checks that p, and whatever it is within, is printed as a text that Read reads.
func prints(t *testing.T, p api.Plan, want string) {
	t.Helper()
	if got := plan.Print(p); got != want {
		t.Errorf("Print of %s: %.200q, not %.200q", tell(p), got, want)
	}
	for _, x := range append(within(p), p) {
		s := plan.Print(x)
		if !strings.Contains(s, want) {
			t.Errorf("Print of %s: %.200q", tell(x), s)
		}
		again, why, at := plan.Read(s)
		if why != api.OK || at != 0 || !same(again, x) {
			t.Errorf("Read of %.200q: %s, error %d at %d", s, tell(again), why, at)
		}
	}
}

// printsNothing checks that p, and whatever it is within, is none that Read can return.
func printsNothing(t *testing.T, p api.Plan) {
	t.Helper()
	for _, x := range append(within(p), p) {
		if got := plan.Print(x); got != "" {
			t.Errorf("Print of %s: %.200q", tell(x), got)
		}
	}
}

func TestP92PrintOfEachForm(t *testing.T) {
	for i, want := range []string{
		"(table t)",
		"(table qqqqqqqqqqqq)",
		"(filter (lt a 5) (table t))",
		`(filter "\00\22x" (distinct (table u)))`,
		"(project (a a) (b (neg -9223372036854775808)) (table t))",
		`(project (a "zzzzzzzzzzzzzzzzzzzzzzzzzzzzzzzzzzzzzzzz") (union (table t) (table u)))`,
		"(join (a b) (c) (table t) (table u))",
		"(join () () (table t) (distinct (table t)))",
		"(union (table t) (filter a (table u)))",
		"(distinct (table t))",
		"(distinct (distinct (distinct (table t))))",
		"(group (a b) (n count) (m sum c) (o min c) (p max a) (table t))",
		"(group () (table t))",
		"(group (a) (union (table t) (table t)))",
		"(group () (n count) (table t))",
	} {
		prints(t, good()[i], want)
	}
}

func TestP92EmptyListsAreNone(t *testing.T) {
	for _, p := range good() {
		want := plan.Print(p)
		fill(&p)
		prints(t, p, want)
	}
}

// fill makes every list of p that is nil one without elements.
func fill(p *api.Plan) {
	for _, l := range []*[]string{&p.Cols, &p.Left, &p.Right} {
		if *l == nil {
			*l = []string{}
		}
	}
	if p.Exprs == nil {
		p.Exprs = []api.Expr{}
	}
	for i := range p.Exprs {
		if p.Exprs[i].Kids == nil {
			p.Exprs[i].Kids = []api.Expr{}
		}
	}
	if p.Aggs == nil {
		p.Aggs = []api.Agg{}
	}
	if p.Kids == nil {
		p.Kids = []api.Plan{}
	}
	for i := range p.Kids {
		fill(&p.Kids[i])
	}
}

func TestP92WrongKinds(t *testing.T) {
	printsNothing(t, api.Plan{})
	for _, p := range good() {
		for _, kind := range noKinds {
			p.Kind = kind
			printsNothing(t, p)
		}
	}
	// Only a join without names is like a union, and a group with nothing like a distinct.
	for _, p := range good() {
		for kind := api.Table; kind <= api.Group; kind++ {
			x := p
			x.Kind = kind
			pair := list(p.Kind, kind)
			slices.Sort(pair)
			bare := len(p.Left) == 0 && len(p.Aggs) == 0
			is := kind == p.Kind || bare && slices.Equal(pair, list(api.Join, api.Union)) || bare && slices.Equal(pair, list(api.Distinct, api.Group))
			if s := plan.Print(x); (s != "") != is {
				t.Errorf("Print of %s: %.200q", tell(x), s)
			}
		}
	}
}

func TestP92WrongNames(t *testing.T) {
	bad := append([]string{"", longName + "q", "A", "a1", "1", "-", "a_b", "a b", " a", "a ", "a\n", "\na", "a)", "(a", "a) (b", "()", "(a)", `"a"`, "ä", "a\x00", "\xff", "`", "{", "t) (table u", strings.Repeat("a ", 1000)}, words...)
	for _, s := range bad {
		printsNothing(t, table(s))
		printsNothing(t, project(list(s), list(number(1)), table("t")))
		printsNothing(t, project(list("a", s, "b"), list(number(1), number(2), number(3)), table("t")))
		printsNothing(t, join(list(s), list("a"), table("t"), table("u")))
		printsNothing(t, join(list("a", "b", s), list("a"), table("t"), table("u")))
		printsNothing(t, join(list("a"), list(s), table("t"), table("u")))
		printsNothing(t, join(nil, list("a", s), table("t"), table("u")))
		printsNothing(t, group(list(s), nil, table("t")))
		printsNothing(t, group(list("a", s), list(agg("n", "count", "")), table("t")))
		printsNothing(t, group(nil, list(agg(s, "count", "")), table("t")))
		printsNothing(t, group(nil, list(agg(s, "sum", "a")), table("t")))
		printsNothing(t, group(nil, list(agg("n", "sum", s)), table("t")))
		printsNothing(t, group(nil, list(agg("n", "count", ""), agg("n", "max", s)), table("t")))
		printsNothing(t, filter(column(s), table("t")))
	}
}

func TestP92WrongFunctions(t *testing.T) {
	bad := append([]string{"", "a", "n", "Sum", "sum ", " sum", "sum\n", "summ", "su", "avg", "sum c", "count)", "(sum)", "\x00"}, slices.DeleteFunc(slices.Clone(words), func(s string) bool {
		return s == "sum" || s == "min" || s == "max" || s == "count"
	})...)
	for _, f := range bad {
		for _, col := range []string{"", "a"} {
			printsNothing(t, group(nil, list(agg("n", f, col)), table("t")))
			printsNothing(t, group(list("a"), list(agg("n", "count", ""), agg("n", f, col), agg("n", "sum", "b")), table("t")))
		}
	}
	printsNothing(t, group(nil, list(agg("n", "count", "a")), table("t")))
	printsNothing(t, group(nil, list(agg("n", "sum", "")), table("t")))
	printsNothing(t, group(nil, list(agg("n", "min", "")), table("t")))
	printsNothing(t, group(nil, list(agg("n", "max", "")), table("t")))
	printsNothing(t, group(nil, list(api.Agg{}), table("t")))
}

func TestP92WrongExpressions(t *testing.T) {
	bad := []api.Expr{
		{}, {Kind: 5, S: "a"}, {Kind: -1}, {Kind: 256 + api.Column, S: "a"},
		{Kind: api.Column}, {Kind: api.Column, S: "A"}, {Kind: api.Column, S: "sum"}, {Kind: api.Column, S: "a", N: 1}, {Kind: api.Column, S: "a", Kids: list(number(1))}, {Kind: api.Column, S: "5"}, {Kind: api.Column, S: `"x"`}, {Kind: api.Column, S: "(neg a)"},
		{Kind: api.Number, S: "a"}, {Kind: api.Number, N: 1, Kids: list(number(1))},
		{Kind: api.String, N: 1}, {Kind: api.String, Kids: list(number(1))}, quoted(strings.Repeat("x", api.MaxText+1)), quoted(strings.Repeat("x", 1000)),
		{Kind: api.Apply}, apply("neg"), apply("neg", number(1), number(2)), apply("foo", number(1)), apply("", number(1)), apply("table", column("t")), {Kind: api.Apply, S: "neg", N: 1, Kids: list(number(1))}, apply("neg", api.Expr{}), apply("add", number(1), quoted(strings.Repeat("x", api.MaxText+1))), apply("neg", apply("neg", apply("neg"))),
	}
	for _, e := range bad {
		printsNothing(t, filter(e, table("t")))
		printsNothing(t, project(list("a"), list(e), table("t")))
		printsNothing(t, project(list("a", "b", "c"), list(number(1), e, number(2)), table("t")))
		printsNothing(t, filter(apply("not", e), table("t")))
		printsNothing(t, filter(apply("if", column("a"), e, column("b")), table("t")))
	}
}

func TestP92WrongNumbersOfThings(t *testing.T) {
	a, p := column("a"), table("t")
	for _, x := range []api.Plan{
		{Kind: api.Filter, Kids: list(p)},
		{Kind: api.Filter, Exprs: list(a, a), Kids: list(p)},
		{Kind: api.Filter, Exprs: list(apply("neg", a), a), Kids: list(p)},
		{Kind: api.Filter, Exprs: list(a)},
		{Kind: api.Project, Kids: list(p)},
		{Kind: api.Project, Cols: list("a"), Kids: list(p)},
		{Kind: api.Project, Exprs: list(a), Kids: list(p)},
		{Kind: api.Project, Cols: list("a", "b"), Exprs: list(a), Kids: list(p)},
		{Kind: api.Project, Cols: list("a"), Exprs: list(a, a), Kids: list(p)},
		{Kind: api.Project, Cols: list("a", "table"), Exprs: list(a, a)},
		{Kind: api.Group, Left: list("a"), Aggs: list(agg("table", "t", ""))},
		{Kind: api.Group, Aggs: list(agg("n", "count", ""), agg("table", "t", ""))},
		{Kind: api.Project, Cols: list("a", "distinct"), Exprs: list(a, a), Kids: nil},
	} {
		printsNothing(t, x)
	}
	kids := list(p, table("u"), table("v"), table("w"))
	for _, x := range good() {
		right := len(x.Kids)
		for n := range 5 {
			if n != right {
				x.Kids = kids[:n]
				printsNothing(t, x)
			}
		}
	}
}

// A field that the Kind does not use is empty.
func TestP92FieldsThatAreNotUsed(t *testing.T) {
	set := map[string]func(*api.Plan){
		"Name":  func(p *api.Plan) { p.Name = "a" },
		"Exprs": func(p *api.Plan) { p.Exprs = list(column("a")) },
		"Cols":  func(p *api.Plan) { p.Cols = list("a") },
		"Left":  func(p *api.Plan) { p.Left = list("a") },
		"Right": func(p *api.Plan) { p.Right = list("a") },
		"Aggs":  func(p *api.Plan) { p.Aggs = list(agg("n", "count", "")) },
		"Kids":  func(p *api.Plan) { p.Kids = list(table("t")) },
	}
	uses := map[int]string{api.Table: "Name", api.Filter: "Exprs Kids", api.Project: "Cols Exprs Kids", api.Join: "Left Right Kids", api.Union: "Kids", api.Distinct: "Kids", api.Group: "Left Aggs Kids"}
	if fields := reflect.TypeFor[api.Plan]().NumField(); fields != 1+len(set) {
		t.Fatalf("%d fields", fields)
	}
	tried := 0
	for _, p := range good() {
		for field, fill := range set {
			if !slices.Contains(strings.Fields(uses[p.Kind]), field) {
				x := p
				fill(&x)
				printsNothing(t, x)
				tried++
			}
		}
	}
	if tried < 60 {
		t.Error(tried)
	}
	for _, s := range []string{" ", "\x00", "table", "A"} {
		p := distinct(table("t"))
		p.Name = s
		printsNothing(t, p)
		p = distinct(table("t"))
		p.Left = list(s)
		printsNothing(t, p)
		p = distinct(table("t"))
		p.Left = list("")
		printsNothing(t, p)
	}
}

// A text may have room for many plans, or for many names.
func TestP92PlansOfManyParts(t *testing.T) {
	p, s := table("t"), "(table t)"
	for range 5 {
		p, s = union(p, p), "(union "+s+" "+s+")"
	}
	if got := plan.Print(p); got != s || plan.Size(p) != 63 {
		t.Errorf("%.700q, not %.700q", got, s)
	}
	e, s := column("a"), "a"
	for range 6 {
		e, s = apply("or", e, e), "(or "+s+" "+s+")"
	}
	if got := plan.Print(filter(e, table("t"))); got != "(filter "+s+" (table t))" {
		t.Errorf("%.700q", got)
	}
	if got := plan.Print(join(slices.Repeat(list("a"), 140), slices.Repeat(list("b"), 140), table("t"), table("u"))); len(got) != 32+2*279 {
		t.Errorf("%d bytes: %.700q", len(got), got)
	}
}

func TestP92WhatIsTooLong(t *testing.T) {
	for n := 21; n < 700; n++ {
		p := group(strings.Fields(names(n-20)), nil, table("t"))
		want := loose(n)
		if n > api.MaxPlan {
			want = ""
		}
		if got := plan.Print(p); got != want {
			t.Errorf("%d bytes: %.700q", n, got)
		}
	}
	for _, n := range []int{601, 1000, 2000} {
		x := filter(column("a"), table("t"))
		x.Exprs = slices.Repeat(x.Exprs, n)
		printsNothing(t, x)
		printsNothing(t, group(slices.Repeat(list("a"), n), nil, table("t")))
		printsNothing(t, group(nil, slices.Repeat(list(agg("n", "count", "")), n), table("t")))
		printsNothing(t, join(nil, slices.Repeat(list("a"), n), table("t"), table("u")))
		printsNothing(t, project(slices.Repeat(list("a"), n), slices.Repeat(list(column("a")), n), table("t")))
		printsNothing(t, api.Plan{Kind: api.Union, Kids: slices.Repeat(list(table("t")), n)})
	}
	// The longest of each form: what fits just so is printed, and one more byte is not.
	for _, p := range good() {
		for pad := range 600 {
			x := union(p, group(strings.Fields(names(pad+1)), nil, table("t")))
			size := len("(union  )") + len(plan.Print(p)) + 20 + pad + 1
			if got := len(plan.Print(x)); size <= api.MaxPlan && got != size || size > api.MaxPlan && got != 0 {
				t.Fatalf("%s, %d bytes: %d", tell(p), size, got)
			}
		}
	}
}

func TestP92WhatIsTooDeep(t *testing.T) {
	p := table("t")
	for n := 1; n < 60; n++ {
		want, _ := nested(n-1, "(table t)")
		if n > api.MaxDeep {
			want = ""
		}
		if got := plan.Print(p); got != want {
			t.Errorf("%d brackets: %.300q", n, got)
		}
		p = distinct(p)
	}
	// Brackets of lists and expressions count, too.
	e := column("a")
	for n := 1; n < 60; n++ {
		if got := plan.Print(filter(e, table("t"))); (got != "") != (n <= api.MaxDeep) {
			t.Errorf("a filter of %d brackets: %q", n, got)
		}
		if got := plan.Print(project(list("a"), list(e), table("t"))); (got != "") != (n+1 <= api.MaxDeep) {
			t.Errorf("a project of %d brackets: %q", n+1, got)
		}
		e = apply("neg", e)
	}
	flat, listed := filter(number(1), table("t")), group(nil, nil, table("t"))
	for n := 2; n < 60; n++ {
		if got := plan.Print(flat); (got != "") != (n <= api.MaxDeep) {
			t.Errorf("%d brackets: %q", n, got)
		}
		if got := plan.Print(listed); (got != "") != (n <= api.MaxDeep) {
			t.Errorf("%d brackets: %q", n, got)
		}
		flat, listed = filter(number(1), flat), group(nil, nil, listed)
	}
	last := join(nil, nil, table("t"), table("u"))
	for range api.MaxDeep - 2 {
		last = distinct(last)
	}
	if plan.Print(last) == "" || plan.Print(distinct(last)) != "" {
		t.Error("a join at the bottom")
	}
}

func TestP92Tables(t *testing.T) {
	for _, x := range []struct {
		p    api.Plan
		want []string
	}{
		{table("t"), list("t")},
		{distinct(table("t")), list("t")},
		{union(table("b"), table("a")), list("a", "b")},
		{union(table("a"), table("a")), list("a")},
		{union(union(table("z"), table("aa")), union(table("a"), table("z"))), list("a", "aa", "z")},
		{join(list("c"), list("d"), filter(column("e"), table("b")), group(list("f"), list(agg("g", "sum", "h")), table("a"))), list("a", "b")},
		{project(list("x"), list(column("y")), table("t")), list("t")},
		{api.Plan{}, nil},
		{distinct(api.Plan{}), nil},
		{api.Plan{Kind: api.Union}, nil},
		{api.Plan{Name: "t"}, nil},
		{api.Plan{Kind: api.Union, Name: "t"}, nil},
		{api.Plan{Kind: api.Group, Name: "t", Left: list("a"), Kids: list(table("b"))}, list("b")},
		{api.Plan{Kind: api.Table, Name: "b", Kids: list(table("a"), distinct(table("c")))}, list("a", "b", "c")},
		{api.Plan{Kind: 99, Kids: list(table("a"), api.Plan{Kind: -1, Kids: list(table("c"), table("b"))}, table("b"))}, list("a", "b", "c")},
		{union(table("B"), union(table("a"), table("\xff"))), list("B", "a", "\xff")},
		{union(table("table"), table("a b")), list("a b", "table")},
		{union(table("\x00"), union(table("ä"), table("z"))), list("\x00", "z", "ä")},
		{api.Plan{Kind: api.Filter, Exprs: list(column("t"), column("u"))}, nil},
		{distinct(table("")), list("")},
	} {
		if got := plan.Tables(x.p); !slices.Equal(got, x.want) {
			t.Errorf("Tables of %s: %q, not %q", tell(x.p), got, x.want)
		}
	}
	for _, p := range good() {
		for _, x := range within(p) {
			want := slices.Concat(plan.Tables(p), list("u"))
			slices.Sort(want)
			want = slices.Compact(want)
			if got := plan.Tables(x); !slices.Equal(got, want) && !slices.Equal(got, plan.Tables(p)) {
				t.Errorf("Tables of %s: %q, not %q", tell(x), got, want)
			}
		}
	}
}

func TestP92Size(t *testing.T) {
	for i, want := range []int{1, 1, 2, 3, 2, 4, 3, 4, 4, 2, 4, 2, 2, 4, 2} {
		p := good()[i]
		if got := plan.Size(p); got != want {
			t.Errorf("Size of %s: %d, not %d", tell(p), got, want)
		}
		for k, more := range []int{1, 1, 2, 2, 2, 2, 1, 1, 5, 1 + want} {
			if got := plan.Size(within(p)[k]); got != want+more {
				t.Errorf("Size of %s: %d, not %d", tell(within(p)[k]), got, want+more)
			}
		}
	}
	for _, x := range []struct {
		p    api.Plan
		want int
	}{
		{api.Plan{}, 1},
		{api.Plan{Kind: 99, Name: "x", Left: list("a", "b"), Exprs: list(column("a"))}, 1},
		{api.Plan{Kind: api.Table, Kids: list(table("a"), table("b"), table("c"))}, 4},
		{api.Plan{Kids: []api.Plan{{}, {}, {Kids: []api.Plan{{}, {}}}, {}}}, 7},
		{filter(apply("neg", apply("neg", number(1))), table("t")), 2},
	} {
		if got := plan.Size(x.p); got != x.want {
			t.Errorf("Size of %s: %d, not %d", tell(x.p), got, x.want)
		}
	}
}

// As great as the rules allow, and beyond what a text can hold.
func TestP92TablesAndSizeOfGreatPlans(t *testing.T) {
	wide := api.Plan{Kind: api.Union, Kids: slices.Repeat(list(table("t"), table("s"), api.Plan{Kind: 99, Name: "r"}), 666)}
	if n, l := plan.Size(wide), plan.Tables(wide); n != 1999 || !slices.Equal(l, list("s", "t")) {
		t.Error(n, l)
	}
	deep := table("t")
	for range 49 {
		deep = api.Plan{Kind: api.Union, Kids: append(slices.Repeat(list(table("s")), 39), deep)}
	}
	if n, l := plan.Size(deep), plan.Tables(deep); n != 1+49*40 || !slices.Equal(l, list("s", "t")) {
		t.Error(n, l)
	}
	if s := plan.Print(wide) + plan.Print(deep); s != "" {
		t.Error(s)
	}
	full := table("t")
	for range 10 {
		full = union(full, full)
	}
	if n, l := plan.Size(full), plan.Tables(full); n != 2047 || !slices.Equal(l, list("t")) {
		t.Error(n, l)
	}
}

// endless returns plans that have no end, or none that anybody could wait for.
func endless() []api.Plan {
	var all []api.Plan
	for _, kind := range []int{api.Table, api.Filter, api.Join, api.Union, api.Group, 99} {
		for _, n := range []int{1, 2, 50} {
			ring := make([]api.Plan, n)
			for i := range ring {
				ring[i] = api.Plan{Kind: kind, Name: "t", Kids: ring}
			}
			all = append(all, ring[0])
		}
		twice := api.Plan{Kind: kind, Name: "t"}
		for range 60 {
			twice.Kids = list(twice, twice)
		}
		all = append(all, twice)
	}
	for _, n := range []int{51, 1000, 1 << 14, 1 << 17, 1 << 20} {
		deep := table("t")
		for range n {
			deep = distinct(deep)
		}
		all = append(all, deep)
	}
	loop := make([]api.Expr, 1)
	loop[0] = apply("neg", loop...)
	loop[0].Kids = loop
	twice := column("a")
	for range 60 {
		twice = apply("add", twice, twice)
	}
	deep := column("a")
	for range 1 << 20 {
		deep = apply("neg", deep)
	}
	for _, e := range list(loop[0], twice, deep) {
		all = append(all, filter(e, table("t")), project(list("a", "b"), list(number(1), e), table("t")))
	}
	// What is in one list may be in many.
	many, texts, aggs := slices.Repeat(list(column("a")), 1<<20), slices.Repeat(list("a"), 1<<20), slices.Repeat(list(agg("n", "count", "")), 1<<20)
	for _, p := range []api.Plan{{Kind: api.Filter, Exprs: many}, {Kind: api.Project, Cols: texts, Exprs: many}, {Kind: api.Join, Left: texts}, {Kind: api.Join, Right: texts}, {Kind: api.Group, Left: texts}, {Kind: api.Group, Aggs: aggs}} {
		all = append(all, api.Plan{Kind: api.Union, Kids: slices.Repeat(list(p), 500)})
	}
	return all
}

func TestP92WhatHasNoEndEnds(t *testing.T) {
	for _, p := range endless() {
		plan.Tables(p)
		plan.Size(p)
		if got := plan.Print(p); got != "" {
			t.Errorf("%.300q", got)
		}
	}
}

func TestP92NothingIsToldOfWhatHasNoEnd(t *testing.T) {
	ring := make([]api.Plan, 2)
	ring[0], ring[1] = table("t"), table("u")
	ring[0].Kids, ring[1].Kids = ring, ring
	for _, p := range append(within(ring[0]), ring...) {
		if l, n := plan.Tables(p), plan.Size(p); len(l) != 0 || n != 0 {
			t.Error(l, n)
		}
	}
}

// roomy returns a copy of p whose lists have room with something in it.
func roomy(p api.Plan) api.Plan {
	p.Exprs = room(p.Exprs, column("spare"))
	for i := range p.Exprs {
		p.Exprs[i] = roomyExpr(p.Exprs[i])
	}
	p.Cols, p.Left, p.Right = room(p.Cols, "spare"), room(p.Left, "spare"), room(p.Right, "spare")
	p.Aggs = room(p.Aggs, agg("spare", "sum", "spare"))
	p.Kids = room(p.Kids, table("spare"))
	for i := range p.Kids {
		p.Kids[i] = roomy(p.Kids[i])
	}
	return p
}

func roomyExpr(e api.Expr) api.Expr {
	e.Kids = room(e.Kids, column("spare"))
	for i := range e.Kids {
		e.Kids[i] = roomyExpr(e.Kids[i])
	}
	return e
}

func room[T any](l []T, spare T) []T {
	n := len(l)
	l = append(slices.Clone(l), spare, spare, spare)
	return l[:n:len(l)]
}

// whole returns p with what its lists have room for.
func whole(p api.Plan) api.Plan {
	p.Exprs = slices.Clone(p.Exprs[:cap(p.Exprs)])
	for i := range p.Exprs {
		p.Exprs[i] = wholeExpr(p.Exprs[i])
	}
	p.Cols, p.Left, p.Right = slices.Clone(p.Cols[:cap(p.Cols)]), slices.Clone(p.Left[:cap(p.Left)]), slices.Clone(p.Right[:cap(p.Right)])
	p.Aggs = slices.Clone(p.Aggs[:cap(p.Aggs)])
	p.Kids = slices.Clone(p.Kids[:cap(p.Kids)])
	for i := range p.Kids {
		p.Kids[i] = whole(p.Kids[i])
	}
	return p
}

func wholeExpr(e api.Expr) api.Expr {
	e.Kids = slices.Clone(e.Kids[:cap(e.Kids)])
	for i := range e.Kids {
		e.Kids[i] = wholeExpr(e.Kids[i])
	}
	return e
}

func TestP92NothingIsChanged(t *testing.T) {
	for _, p := range append(good(), within(filter(apply("neg", column("a")), union(table("z"), table("a"))))...) {
		want := plan.Print(p)
		x := roomy(p)
		before := whole(x)
		if got := plan.Print(x); got != want || want == "" {
			t.Errorf("Print of %s: %q, with room %q", tell(p), want, got)
		}
		if !slices.Equal(plan.Tables(x), plan.Tables(p)) || plan.Size(x) != plan.Size(p) {
			t.Errorf("%s: %q, %d", tell(p), plan.Tables(x), plan.Size(x))
		}
		if !same(whole(x), before) {
			t.Errorf("%s is changed", tell(p))
		}
		x.Name += "Q"
		before = whole(x)
		plan.Print(x)
		if !same(whole(x), before) {
			t.Errorf("%s is changed when it can't be printed", tell(p))
		}
	}
}

func TestP92WhatTablesReturnedIsNewMemory(t *testing.T) {
	p := union(table("b"), union(table("a"), table("b")))
	l, m := plan.Tables(p), plan.Tables(p)
	apart(t, "Tables", l, m, p)
	m = m[:cap(m)]
	for i := range m {
		m[i] = "spoilt"
	}
	if !slices.Equal(l, list("a", "b")) || !slices.Equal(plan.Tables(p), list("a", "b")) || plan.Print(p) != "(union (table b) (union (table a) (table b)))" {
		t.Error(l)
	}
}
