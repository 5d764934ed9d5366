package flow_test

import (
	"fmt"
	"slices"
	"sort"
	"strconv"
	"strings"
	"testing"

	"confluence/api"
	"confluence/check"
	"confluence/eval"
	"confluence/flow"
	"confluence/plan"
	"confluence/row"
	"confluence/zset"
)

// longest is as long as a text may be.
var longest = strings.Repeat("z", api.MaxText)

func num(n int64) api.Value { return api.Value{Kind: api.Int, N: n} }

func str(s string) api.Value { return api.Value{Kind: api.Text, S: s} }

// tally returns the reduced tally of a Net.
func tally(net int64) complex128 {
	return complex(float64(max(net, 0)), float64(max(-net, 0)))
}

// item returns the item that a text like "1 'x' *-3" tells: a number and a text, removed three times.
func item(s string) api.Item {
	x := api.Item{T: 1}
	for w := range strings.FieldsSeq(s) {
		n, err := strconv.ParseInt(strings.TrimPrefix(w, "*"), 10, 64)
		switch {
		case w[0] == '\'':
			x.Row = append(x.Row, str(strings.Trim(w, "'")))
		case err != nil:
			panic("no value: " + w)
		case w[0] == '*':
			x.T = tally(n)
		default:
			x.Row = append(x.Row, num(n))
		}
	}
	return x
}

// items returns the items that a text like "1 'x' *-3; 2 'y'" tells, be they a set or not.
func items(s string) api.Set {
	var l api.Set
	if s == "" {
		return nil
	}
	for part := range strings.SplitSeq(s, "; ") {
		l = append(l, item(part))
	}
	return l
}

// def returns the definition that a text like "t: a Int, b Text" tells.
func def(s string) check.Def {
	name, rest, _ := strings.Cut(s, ": ")
	d := check.Def{Name: name}
	for c := range strings.SplitSeq(rest, ", ") {
		name, kind, _ := strings.Cut(c, " ")
		n, err := strconv.Atoi(kind)
		switch {
		case kind == "Int":
			n = api.Int
		case kind == "Text":
			n = api.Text
		case err != nil:
			continue
		}
		d.Cols = append(d.Cols, api.Col{Name: name, Kind: n})
	}
	return d
}

// defs returns the definitions that a text tells, one beside another by "; ".
func defs(s string) []check.Def {
	var l []check.Def
	for d := range strings.SplitSeq(s, "; ") {
		l = append(l, def(d))
	}
	return l
}

// deltas returns the Deltas that a text like "t: 1 'x'; 2 'y' | u: 3" tells, each with its rows in order.
func deltas(s string) []flow.Delta {
	var l []flow.Delta
	if s == "" {
		return nil
	}
	for part := range strings.SplitSeq(s, " | ") {
		name, rows, _ := strings.Cut(part, ":")
		s := items(strings.TrimPrefix(rows, " "))
		sort.SliceStable(s, func(i, k int) bool { return row.Less(s[i].Row, s[k].Row) })
		l = append(l, flow.Delta{Name: name, Rows: s})
	}
	return l
}

func showRow(r api.Row) string {
	var l []string
	for _, v := range r {
		switch {
		case v.Kind == api.Int && v.S == "":
			l = append(l, fmt.Sprint(v.N))
		case v.Kind == api.Text && v.N == 0:
			l = append(l, "'"+v.S+"'")
		default:
			l = append(l, fmt.Sprintf("%#v", v))
		}
	}
	return strings.Join(l, " ")
}

// show tells a set as items reads it.
func show(s api.Set) string {
	var l []string
	for _, x := range s {
		r := showRow(x.Row)
		switch {
		case x.T == 1:
		case imag(x.T) == 0 && real(x.T) > 1:
			r += fmt.Sprintf(" *%d", int64(real(x.T)))
		case real(x.T) == 0 && imag(x.T) >= 1:
			r += fmt.Sprintf(" *-%d", int64(imag(x.T)))
		default:
			r += fmt.Sprintf(" *%v", x.T)
		}
		l = append(l, r)
	}
	return strings.Join(l, "; ")
}

// cut keeps what is told short.
func cut(s string) string {
	if len(s) > 400 {
		return s[:400] + ".."
	}
	return s
}

var names = map[api.Errno]string{
	api.OK: "OK", api.ErrArg: "ErrArg", api.ErrLong: "ErrLong", api.ErrForm: "ErrForm", api.ErrFull: "ErrFull", api.ErrName: "ErrName",
	api.ErrTaken: "ErrTaken", api.ErrType: "ErrType", api.ErrCount: "ErrCount", api.ErrOver: "ErrOver", api.ErrRange: "ErrRange",
}

func showErr(why api.Errno) string {
	if name, ok := names[why]; ok {
		return name
	}
	return fmt.Sprintf("error %d", why)
}

// told tells what a call returns: the rows, or the error. Rows that may not stand beside an error are told too.
func told(s api.Set, why api.Errno) string {
	switch {
	case why == api.OK:
		return show(s)
	case len(s) > 0:
		return showErr(why) + " beside " + show(s)
	}
	return showErr(why)
}

// read returns the plan of a text, which must be one.
func read(t *testing.T, s string) api.Plan {
	t.Helper()
	p, why, at := plan.Read(s)
	if why != api.OK {
		t.Fatalf("%s is no plan: error %d at %d", s, why, at)
	}
	return p
}

// slow is a view by the chapter's words: all tables, of which the plan is evaluated from the beginning for each call.
type slow struct {
	plan   api.Plan
	used   []string
	tables []eval.Table
	rows   api.Set
}

func newSlow(p api.Plan, l []check.Def) *slow {
	m := &slow{plan: p, used: plan.Tables(p)}
	for _, d := range l {
		m.tables = append(m.tables, eval.Table{Name: d.Name, Cols: d.Cols})
	}
	return m
}

// step returns what Step has to. It leans on P14.2 alone.
func (m *slow) step(l []flow.Delta) (api.Set, api.Errno) {
	after := slices.Clone(m.tables)
	why := api.OK
	for _, d := range l {
		i := slices.IndexFunc(after, func(t eval.Table) bool { return t.Name == d.Name })
		if i < 0 || !slices.Contains(m.used, d.Name) {
			continue
		}
		unfit := func(x api.Item) bool { return !row.Fits(after[i].Cols, x.Row) }
		if !zset.Right(d.Rows) || slices.ContainsFunc(d.Rows, unfit) {
			return nil, api.ErrArg
		}
		// Of an error here it is only told when no Delta has the one before.
		if why == api.OK {
			after[i].Rows, why = zset.Add(after[i].Rows, d.Rows)
		}
	}
	if why != api.OK || slices.ContainsFunc(after, func(t eval.Table) bool { return !zset.Plain(t.Rows) }) {
		return nil, api.ErrRange
	}
	rows, why := eval.Eval(m.plan, after)
	if why != api.OK {
		return nil, why
	}
	turned, _ := zset.Add(zset.Flip(m.rows), rows)
	m.tables, m.rows = after, rows
	return turned, api.OK
}

// view is a flow beside a slow one, with the sum of all that its Steps returned.
type view struct {
	*testing.T
	text  string
	defs  []check.Def
	flow  *flow.Flow
	slow  *slow
	total api.Set
}

// start returns a view of a plan and definitions that may be.
func start(t *testing.T, s, d string) *view {
	t.Helper()
	return begin(t, s, defs(d))
}

func begin(t *testing.T, s string, l []check.Def) *view {
	t.Helper()
	p := read(t, s)
	f, why := flow.New(p, l)
	if why != api.OK || f == nil {
		t.Fatalf("P14.1: New of %s: %s", s, showErr(why))
	}
	v := &view{T: t, text: s, defs: l, flow: f, slow: newSlow(p, l)}
	v.holds()
	cols, _, _ := check.Out(p, l)
	if got := f.Cols(); fmt.Sprint(got) != fmt.Sprint(cols) {
		t.Errorf("P14.1: Cols of %s: %v, not %v", s, got, cols)
	}
	return v
}

// holds checks Rows against eval's and against the sum of all that Step returned.
func (v *view) holds() {
	v.Helper()
	got := v.flow.Rows()
	if show(got) != show(v.slow.rows) || !zset.Plain(got) {
		v.Fatalf("P14.4: %s: Rows: %s, not %s", v.text, cut(show(got)), cut(show(v.slow.rows)))
	}
	if show(v.total) != show(got) {
		v.Fatalf("P14.4: %s: the sum of all Steps is %s, not %s", v.text, cut(show(v.total)), cut(show(got)))
	}
}

// take passes Deltas on and returns what Step did, held against the slow view.
func (v *view) take(l []flow.Delta) (api.Set, api.Errno) {
	v.Helper()
	before := v.flow.Save()
	want, why := v.slow.step(l)
	got, errno := v.flow.Step(l)
	if errno != why || told(got, errno) != told(want, why) {
		v.Fatalf("P14.2: %s: Step of %s: %s, not %s", v.text, cut(tellAll(l)), cut(told(got, errno)), cut(told(want, why)))
	}
	if why != api.OK && string(v.flow.Save()) != string(before) {
		v.Fatalf("R3: %s: Step of %s: %s, but something has changed", v.text, cut(tellAll(l)), showErr(why))
	}
	v.total, _ = zset.Add(v.total, got)
	v.holds()
	return got, errno
}

func tellAll(l []flow.Delta) string {
	var s []string
	for _, d := range l {
		s = append(s, d.Name+": "+show(d.Rows))
	}
	return strings.Join(s, " | ")
}

// step passes on the Deltas that a text tells and checks what Step returns: the change, or the name of an error.
func (v *view) step(s, want string) {
	v.Helper()
	if got := told(v.take(deltas(s))); got != want {
		v.Errorf("P14.2: %s: Step of %s: %s, not %s", v.text, cut(s), cut(got), cut(want))
	}
}

// steps does so of several texts, of which each stands ahead of what Step returns.
func (v *view) steps(cases ...string) {
	v.Helper()
	for i := 0; i < len(cases); i += 2 {
		v.step(cases[i], cases[i+1])
	}
}

// has checks Rows.
func (v *view) has(want string) {
	v.Helper()
	if got := show(v.flow.Rows()); got != want {
		v.Errorf("P14.1: %s: Rows: %s, not %s", v.text, cut(got), cut(want))
	}
}

// loaded returns the view with a flow that was saved and loaded.
func (v *view) loaded() *view {
	v.Helper()
	f, why := flow.Load(v.slow.plan, v.defs, v.flow.Save())
	if why != api.OK || f == nil {
		v.Fatalf("P14.3: %s: Load of %x: %s", v.text, v.flow.Save(), showErr(why))
	}
	m := *v.slow
	return &view{T: v.T, text: v.text, defs: v.defs, flow: f, slow: &m, total: v.total}
}

// common are definitions that most plans here are of.
const common = "t: a Int, b Text; u: c Int, d Int; w: e Int"

// forms are plans of each form and of forms within forms, of common tables.
var forms = []string{
	"(table t)",
	"(filter a (table t))",
	"(filter (lt a 2) (table t))",
	"(project (x a) (table t))",
	"(project (x b) (y (add a 1)) (z 7) (table t))",
	"(project (x 1) (table t))",
	"(join (a) (c) (table t) (table u))",
	"(join (d c) (c d) (table u) (table u))",
	"(join (a) (x) (table t) (project (x a) (y b) (table t)))",
	"(union (table t) (table t))",
	"(union (table t) (filter (lt a 2) (table t)))",
	"(union (project (x c) (table u)) (table w))",
	"(distinct (table t))",
	"(distinct (project (x b) (table t)))",
	"(group () (n count) (table t))",
	"(group (b) (n count) (s sum a) (l min a) (g max a) (table t))",
	"(group (a b) (table t))",
	"(group () (s sum a) (l min b) (g max b) (table t))",
	"(distinct (distinct (table u)))",
	"(group () (n count) (group (b) (table t)))",
	"(group (n) (m count) (group (b) (n count) (table t)))",
	"(join (c) (e) (union (table u) (table u)) (distinct (table w)))",
	"(filter (lt 1 n) (group (b) (n count) (table t)))",
	"(union (join (a) (c) (table t) (table u)) (join (a) (e) (table t) (project (e e) (f e) (table w))))",
	"(join (b) (k) (group (b) (n count) (table t)) (group (k) (m max x) (project (k b) (x a) (table t))))",
}

func TestP141New(t *testing.T) {
	for _, s := range forms {
		v := start(t, s, common)
		v.has("")
		v.step("", "")
		v.has("")
	}
	// Cols, written out.
	for s, want := range map[string]string{
		"(table t)":                                     "[{a 1} {b 2}]",
		"(filter a (table t))":                          "[{a 1} {b 2}]",
		"(project (x b) (y 1) (table t))":               "[{x 2} {y 1}]",
		"(join (c) (e) (table u) (table w))":            "[{c 1} {d 1}]",
		"(join (a) (c) (table t) (table u))":            "[{a 1} {b 2} {d 1}]",
		"(union (table w) (project (x c) (table u)))":   "[{e 1}]",
		"(distinct (table t))":                          "[{a 1} {b 2}]",
		"(group (b) (n count) (m min b) (table t))":     "[{b 2} {n 1} {m 2}]",
		"(group () (n count) (table w))":                "[{n 1}]",
		"(project (x (cat b b)) (group (b) (table t)))": "[{x 2}]",
		"(join (a b) (a b) (table t) (table t))":        "[{a 1} {b 2}]",
		"(group (c d) (x count) (y sum c) (z min d) (v max d) (distinct (table u)))": "[{c 1} {d 1} {x 1} {y 1} {z 1} {v 1}]",
	} {
		if got := fmt.Sprint(start(t, s, common).flow.Cols()); got != want {
			t.Errorf("P14.1: Cols of %s: %s, not %s", s, got, want)
		}
	}
}

// isRefused checks that New and Load answer an error and nothing beside it.
func isRefused(t *testing.T, p api.Plan, l []check.Def, want api.Errno) {
	t.Helper()
	if _, why, _ := check.Out(p, l); why != want {
		t.Errorf("check.Out of %s: %s, not %s", plan.Print(p), showErr(why), showErr(want))
	}
	if f, why := flow.New(p, l); f != nil || why != want {
		t.Errorf("P14.1: New of %s: %v, %s, not %s", plan.Print(p), f, showErr(why), showErr(want))
	}
	for _, b := range [][]byte{nil, {0, 0}, {0, 0, 0, 0}, {1}, {255, 255, 255}} {
		if f, why := flow.Load(p, l, b); f != nil || why != want {
			t.Errorf("P14.3: Load of %s, %x: %v, %s, not %s", plan.Print(p), b, f, showErr(why), showErr(want))
		}
	}
}

func TestP141NewOfWrongDefs(t *testing.T) {
	for _, d := range []string{
		"t: a Int; T: a Int", "T: a Int; t: a Int", "t: a Int; : a Int", "t: a Int; table: a Int", "t: a Int; t: a Int", "t: a Int; t: b Text",
		"t: a Int; u: ", "t: ", "t: a Int; u: a Int, a Int", "t: a Int, a Text", "t: a Int; u: a 3", "t: a 0", "t: A Int", "t: sum Int",
		"t: a Int, b Int, c Int, d Int, e Int, f Int, g Int", "t: a Int; qqqqqqqqqqqqq: a Int",
	} {
		isRefused(t, read(t, "(table t)"), defs(d), api.ErrArg)
		// ErrArg comes first.
		isRefused(t, read(t, "(table none)"), defs(d), api.ErrArg)
		isRefused(t, api.Plan{}, defs(d), api.ErrArg)
	}
}

func TestP141NewOfWrongPlans(t *testing.T) {
	table := api.Plan{Kind: api.Table, Name: "t"}
	loop := api.Plan{Kind: api.Distinct, Kids: make([]api.Plan, 1)}
	loop.Kids[0] = loop
	for _, p := range []api.Plan{
		{}, {Kind: 8}, {Kind: -1, Name: "t"}, {Kind: api.Table}, {Kind: api.Table, Name: "table"}, {Kind: api.Table, Name: "t", Cols: []string{"a"}},
		{Kind: api.Filter}, {Kind: api.Filter, Kids: []api.Plan{table}}, {Kind: api.Filter, Exprs: []api.Expr{{Kind: api.Number}}},
		{Kind: api.Project, Kids: []api.Plan{table}}, {Kind: api.Project, Cols: []string{"x"}, Kids: []api.Plan{table}},
		{Kind: api.Join, Left: []string{"a"}, Right: []string{"a"}}, {Kind: api.Join, Left: []string{"a"}, Right: []string{"a"}, Kids: []api.Plan{table}},
		{Kind: api.Union}, {Kind: api.Union, Kids: []api.Plan{table}}, {Kind: api.Union, Kids: []api.Plan{table, table, table}},
		{Kind: api.Distinct}, {Kind: api.Distinct, Kids: []api.Plan{table, table}}, {Kind: api.Distinct, Name: "t", Kids: []api.Plan{table}},
		{Kind: api.Group}, {Kind: api.Group, Aggs: []api.Agg{{Name: "n", Fun: "none"}}, Kids: []api.Plan{table}},
		{Kind: api.Union, Kids: []api.Plan{table, {}}}, loop,
	} {
		isRefused(t, p, defs(common), api.ErrForm)
		isRefused(t, p, nil, api.ErrForm)
	}
	deep := table
	for range api.MaxDeep - 1 {
		deep = api.Plan{Kind: api.Distinct, Kids: []api.Plan{deep}}
	}
	if f, why := flow.New(deep, defs(common)); f == nil || why != api.OK {
		t.Errorf("P14.1: New of a plan as deep as may be: %s", showErr(why))
	}
	isRefused(t, api.Plan{Kind: api.Distinct, Kids: []api.Plan{deep}}, defs(common), api.ErrForm)
}

func TestP141NewOfPlansWithoutColumns(t *testing.T) {
	for s, want := range map[string]api.Errno{
		"(table v)": api.ErrName, "(distinct (table v))": api.ErrName, "(union (table t) (table v))": api.ErrName,
		"(filter x (table t))": api.ErrName, "(filter b (table t))": api.ErrType, "(filter (add a b) (table t))": api.ErrType,
		"(project (x y) (table t))": api.ErrName, "(project (x (len a)) (table t))": api.ErrType, "(project (x a) (x b) (table t))": api.ErrTaken,
		"(project (p a) (q a) (r a) (s a) (x a) (y a) (z a) (table t))": api.ErrCount,
		"(join () () (table t) (table u))":                              api.ErrCount, "(join (a) () (table t) (table u))": api.ErrCount, "(join (x) (c) (table t) (table u))": api.ErrName,
		"(join (a) (x) (table t) (table u))": api.ErrName, "(join (a a) (c d) (table t) (table u))": api.ErrTaken, "(join (b) (c) (table t) (table u))": api.ErrType,
		"(join (a) (a) (table t) (project (a a) (b b) (table t)))": api.ErrTaken,
		"(union (table t) (table w))":                              api.ErrCount, "(union (table t) (table u))": api.ErrType,
		"(group (x) (table t))": api.ErrName, "(group (a a) (table t))": api.ErrTaken, "(group (a) (a count) (table t))": api.ErrTaken,
		"(group () (s sum x) (table t))": api.ErrName, "(group () (s sum b) (table t))": api.ErrType, "(group () (table t))": api.ErrCount,
	} {
		isRefused(t, read(t, s), defs(common), want)
	}
	isRefused(t, read(t, "(table t)"), nil, api.ErrName)
	isRefused(t, read(t, "(table t)"), []check.Def{}, api.ErrName)
}

// TestP142Examples are those of the chapter.
func TestP142Examples(t *testing.T) {
	v := start(t, "(distinct (table t))", "t: a Int")
	v.steps("t: 1 *2", "1", "t: 1 *-1", "")
	v.has("1")
	v = start(t, "(table t)", "t: a Int")
	v.steps("t: 1 | t: 1 *-1", "", "t: 2", "2")
	v = start(t, "(join (a) (a) (table t) (table t))", "t: a Int")
	v.steps("t: 1 *2; 2", "1 *4; 2", "t: 1", "1 *5", "t: 1 *-2; 2 *2", "1 *-8; 2 *8", "t: 1 *-1; 2 *-3", "1 *-1; 2 *-9")
	v.has("")
}

func TestP142Table(t *testing.T) {
	v := start(t, "(table t)", common)
	v.steps("t: 1 'x'; 2 '' *3", "1 'x'; 2 '' *3", "t: 1 'x' *-1; 2 '' *-1; 3 'y'", "1 'x' *-1; 2 '' *-1; 3 'y'", "t: 2 '' *-2", "2 '' *-2")
	v.has("3 'y'")
	v.steps("", "", "t:", "", "t: | u: | t:", "", "t: 3 'y' *-1", "3 'y' *-1", "t: -9223372036854775808 ''; 9223372036854775807 '"+longest+"'", "-9223372036854775808 ''; 9223372036854775807 '"+longest+"'")
}

func TestP142Filter(t *testing.T) {
	v := start(t, "(filter (lt a 3) (table t))", common)
	v.steps("t: 1 'x' *2; 2 'y'; 3 'z' *4", "1 'x' *2; 2 'y'", "t: 3 'z' *-4; 4 'z'", "", "t: 1 'x' *-1; 3 'a'", "1 'x' *-1", "t: 1 'x' *-1; 2 'y' *-1; 4 'z' *-1", "1 'x' *-1; 2 'y' *-1")
	v.has("")
	// Whatever is not 0 counts.
	v = start(t, "(filter (sub a 2) (table t))", common)
	v.steps("t: 0 ''; 1 ''; 2 ''; 3 ''; 9 ''", "0 ''; 1 ''; 3 ''; 9 ''", "t: 0 '' *-1; 2 '' *-1", "0 '' *-1")
	start(t, "(filter 0 (table t))", common).steps("t: 1 ''", "", "t: 1 '' *-1", "")
	start(t, "(filter -1 (table t))", common).steps("t: 1 ''", "1 ''", "t: 1 '' *-1", "1 '' *-1")
}

func TestP142Project(t *testing.T) {
	v := start(t, "(project (x b) (y (mul a a)) (table t))", common)
	v.steps("t: -1 'x' *2; 1 'x' *3; 2 'x'", "'x' 1 *5; 'x' 4", "t: -1 'x' *-2; 1 'x' *-1", "'x' 1 *-3", "t: -1 'x'; 1 'x' *-1; -2 'x'", "'x' 4", "t: 2 'x' *-1; 3 'x'", "'x' 4 *-1; 'x' 9")
	v.has("'x' 1 *2; 'x' 4; 'x' 9")
	// Rows in another order than the Kid's.
	v = start(t, "(project (x (neg a)) (table t))", common)
	v.steps("t: 1 'x'; 2 'x'; 3 'y'; 3 'z'", "-3 *2; -2; -1", "t: 1 'x' *-1; 2 'x' *-1; 3 'z' *-1", "-3 *-1; -2 *-1; -1 *-1")
	v = start(t, "(project (x \"k\") (y 5) (table t))", common)
	v.steps("t: 1 'x'; 2 'x' *2", "'k' 5 *3", "t: 1 'x' *-1; 7 ''", "", "t: 2 'x' *-2; 7 '' *-1", "'k' 5 *-3")
}

func TestP142Join(t *testing.T) {
	v := start(t, "(join (a) (c) (table t) (table u))", common)
	v.steps(
		"t: 1 'x' *2; 2 'y'", "",
		"u: 1 10; 1 11 *3; 3 30", "1 'x' 10 *2; 1 'x' 11 *6",
		"t: 3 'z'; 1 'q' | u: 2 20 *2; 1 10 *-1", "1 'q' 11 *3; 1 'x' 10 *-2; 2 'y' 20 *2; 3 'z' 30",
		"u: 1 11 *-1", "1 'q' 11 *-1; 1 'x' 11 *-2",
		"t: 1 'x' *-2; 1 'q' *-1 | u: 1 11 *-2; 1 12", "1 'q' 11 *-2; 1 'x' 11 *-4",
		"t: 1 'r'", "1 'r' 12",
		"t: 2 'y' *-1; 2 'yy' | u: 3 30 *-1; 3 31", "2 'y' 20 *-2; 2 'yy' 20 *2; 3 'z' 30 *-1; 3 'z' 31",
	)
	v.has("1 'r' 12; 2 'yy' 20 *2; 3 'z' 31")
	// The last row of each side.
	v.steps("u: 2 20 *-2", "2 'yy' 20 *-2", "t: 3 'z' *-1", "3 'z' 31 *-1", "t: 1 'r' *-1 | u: 1 12 *-1", "1 'r' 12 *-1")
	v.steps("u: 2 21", "2 'yy' 21", "t: 3 'w'", "3 'w' 31")
	// The numbers of both sides change within one step.
	v = start(t, "(join (a) (c) (table t) (table u))", common)
	v.steps("t: 1 'x' *2 | u: 1 1 *3", "1 'x' 1 *6", "t: 1 'x' *-1 | u: 1 1 *2", "1 'x' 1 *-1", "t: 1 'x' *4 | u: 1 1 *-4", "", "t: 1 'x' *-5 | u: 1 1 *5", "1 'x' 1 *-5")
	// Several columns, in another order on the right; all of them are keys there.
	v = start(t, "(join (d c) (c d) (table u) (project (c c) (d d) (table u)))", common)
	v.steps("u: 1 2; 2 1 *3; 4 4 *2", "1 2 *3; 2 1 *3; 4 4 *4", "u: 1 2 *-1", "1 2 *-3; 2 1 *-3")
	v = start(t, "(join (b a) (y x) (table t) (project (x a) (z 7) (y b) (table t)))", common)
	v.steps("t: 1 'x'; 1 'y' *2; 2 'x'", "1 'x' 7; 1 'y' 7 *4; 2 'x' 7", "t: 1 'y' *-1", "1 'y' 7 *-3")
}

func TestP142Union(t *testing.T) {
	v := start(t, "(union (project (x c) (table u)) (table w))", common)
	v.steps("u: 1 1; 1 2 | w: 1; 2", "1 *3; 2", "u: 1 1 *-1; 2 2 | w: 1; 2 *-1", "", "w: 1 *-2", "1 *-2", "u: 1 2 *-1; 3 3", "1 *-1; 3", "u: 2 2 *-1; 3 3 *-1", "2 *-1; 3 *-1")
	v.has("")
	v = start(t, "(union (table t) (table t))", common)
	v.steps("t: 1 'x'; 2 'y' *2", "1 'x' *2; 2 'y' *4", "t: 1 'x' *-1; 2 'y'", "1 'x' *-2; 2 'y' *2")
	v = start(t, "(union (filter (lt a 2) (table t)) (filter (lt 0 a) (table t)))", common)
	v.steps("t: 0 ''; 1 ''; 2 ''", "0 ''; 1 '' *2; 2 ''", "t: 0 '' *-1; 1 '' *-1; 2 '' *-1", "0 '' *-1; 1 '' *-2; 2 '' *-1")
	start(t, "(union (table t) (filter 0 (table t)))", common).steps("t: 0 ''", "0 ''", "t: 1 '' | t: 0 '' *-1", "0 '' *-1; 1 ''")
	start(t, "(union (filter 0 (table t)) (table t))", common).steps("t: 0 ''", "0 ''", "t: 1 '' | t: 0 '' *-1", "0 '' *-1; 1 ''")
}

func TestP142Distinct(t *testing.T) {
	v := start(t, "(distinct (table t))", common)
	v.steps("t: 1 'x' *3; 1 'y'; 2 'x'", "1 'x'; 1 'y'; 2 'x'", "t: 1 'x' *-1; 1 'y'; 2 'x' *-1", "2 'x' *-1", "t: 1 'x' *-1; 1 'y' *-1", "", "t: 1 'x' *-1; 1 'y' *-1", "1 'x' *-1; 1 'y' *-1")
	v.has("")
	v.step("t: 1 'x' *2", "1 'x'")
	six := start(t, "(distinct (table s))", "s: a Int, b Int, c Text, d Int, e Int, f Text")
	six.steps("s: 1 2 'x' 4 5 'y' *2; 1 2 'x' 4 5 'z'", "1 2 'x' 4 5 'y'; 1 2 'x' 4 5 'z'", "s: 1 2 'x' 4 5 'y' *-1; 1 2 'x' 4 5 'z' *-1", "1 2 'x' 4 5 'z' *-1")
}

func TestP142Group(t *testing.T) {
	v := start(t, "(group (b) (n count) (s sum a) (l min a) (g max a) (table t))", common)
	v.steps(
		"t: 1 'x'; 3 'x' *2; 5 'y'", "'x' 3 7 1 3; 'y' 1 5 5 5",
		// The least goes, and then the greatest: one of two stays, then none.
		"t: 1 'x' *-1", "'x' 2 6 3 3; 'x' 3 7 1 3 *-1",
		"t: 3 'x' *-1; 2 'x'", "'x' 2 5 2 3; 'x' 2 6 3 3 *-1",
		"t: 3 'x' *-1", "'x' 1 2 2 2; 'x' 2 5 2 3 *-1",
		// One row for another with the same values.
		"t: 5 'y' *-1; 5 'y' | t: 2 'x' *-1 | t: 2 'x'", "ErrArg",
		"t: 5 'y' *-1 | t: 5 'y' | t: 2 'x' *-1 | t: 2 'x'", "",
		// The last row of a group.
		"t: 2 'x' *-1", "'x' 1 2 2 2 *-1",
		"t: 2 'x' *2; -2 'x'", "'x' 3 2 -2 2",
		"t: 2 'x' *-2; -2 'x' *-1; 5 'y' *-1", "'x' 3 2 -2 2 *-1; 'y' 1 5 5 5 *-1",
	)
	v.has("")
	v = start(t, "(group () (n count) (l min b) (table t))", common)
	v.steps("t: 1 'x'; 2 'w'", "2 'w'", "t: 2 'w' *-1", "1 'x'; 2 'w' *-1", "t: 1 'x' *-1; 5 'x'", "", "t: 5 'x' *-1", "1 'x' *-1", "t: 1 'y'", "1 'y'")
	v = start(t, "(group (b a) (table t))", common)
	v.steps("t: 1 'x' *2; 2 'w'", "'w' 2; 'x' 1", "t: 1 'x' *-1; 2 'w' *-1", "'w' 2 *-1", "t: 1 'x' *-1; 0 'x'", "'x' 0; 'x' 1 *-1")
	// A count beside others: it has no column.
	v = start(t, "(group (c) (m max d) (n count) (l min d) (table u))", common)
	v.steps("u: 1 2; 1 3 *2", "1 3 3 2", "u: 1 3 *-2; 1 1", "1 2 2 1; 1 3 3 2 *-1")
}

func TestP142Nested(t *testing.T) {
	v := start(t, "(filter (lt 1 n) (group (b) (n count) (table t)))", common)
	v.steps("t: 1 'x'; 1 'y' *2", "'y' 2", "t: 2 'x'", "'x' 2", "t: 2 'x' *-1; 2 'y'", "'x' 2 *-1; 'y' 2 *-1; 'y' 3", "t: 1 'x' *-1; 1 'y' *-2", "'y' 3 *-1")
	v = start(t, "(group (n) (m count) (group (b) (n count) (table t)))", common)
	v.steps("t: 1 'x'; 1 'y'; 1 'z' *2", "1 2; 2 1", "t: 2 'x'", "1 1; 1 2 *-1; 2 1 *-1; 2 2", "t: 1 'z' *-1", "1 1 *-1; 1 2; 2 1; 2 2 *-1", "t: 1 'x' *-1 | t: 3 'z'", "")
	v = start(t, "(distinct (union (project (x a) (table t)) (project (x c) (table u))))", common)
	v.steps("t: 1 'x'; 1 'y' | u: 1 1", "1", "t: 1 'x' *-1; 1 'y' *-1", "", "t: 2 'x' | u: 1 1 *-1; 2 1", "1 *-1; 2", "u: 2 1 *-1", "", "t: 2 'x' *-1", "2 *-1")
	v = start(t, "(join (b) (k) (group (b) (n count) (table t)) (group (k) (m max x) (project (k b) (x a) (table t))))", common)
	v.steps("t: 1 'x'; 3 'x'; 2 'y'", "'x' 2 3; 'y' 1 2", "t: 3 'x' *-1; 1 'x'", "'x' 2 1; 'x' 2 3 *-1", "t: 2 'y' *-1; 4 'x'", "'x' 2 1 *-1; 'x' 3 4; 'y' 1 2 *-1")
	// A table behind different parts of one plan.
	v = start(t, "(union (project (x (len b)) (table t)) (union (project (x a) (filter a (table t))) (group () (n count) (table t))))", common)
	v.steps("t: 0 'abc'; 3 'ab'", "2 *2; 3 *2", "t: 0 'abc' *-1", "1; 2 *-1; 3 *-1", "t: 3 'ab' *-1", "1 *-1; 2 *-1; 3 *-1")
}

// TestP142Deep has plans as deep and as long as may be.
func TestP142Deep(t *testing.T) {
	for _, c := range []struct{ before, behind, first, second string }{
		{"(distinct ", ")", "1 'x'; 2 ''", "1 'x' *-1; 3 'y'"},
		{"(filter a ", ")", "1 'x' *2; 2 ''", "1 'x' *-2; 3 'y' *4"},
		{"(project (a a) (b b) ", ")", "1 'x' *2; 2 ''", "1 'x' *-2; 3 'y' *4"},
		{"(group (a b) ", ")", "1 'x'; 2 ''", "1 'x' *-1; 3 'y'"},
		{"(union ", " (table t))", "1 'x' *24; 2 '' *12", "1 'x' *-24; 3 'y' *48"},
		{"(union (table t) ", ")", "1 'x' *24; 2 '' *12", "1 'x' *-24; 3 'y' *48"},
		{"(join (a b) (a b) ", " (distinct (table t)))", "1 'x' *2; 2 ''", "1 'x' *-2; 3 'y' *4"},
	} {
		n := api.MaxDeep - 1
		if strings.HasSuffix(c.behind, "(distinct (table t)))") {
			n-- // in which it is deeper by one
		}
		v := start(t, strings.Repeat(c.before, n)+"(table t)"+strings.Repeat(c.behind, n), common)
		v.steps("t: 1 'x' *2; 2 ''", c.first, "t: 1 'x' *-2; 3 'y' *4", c.second)
		v = v.loaded()
		v.steps("t: 1 'x' *2 | t: 3 'y' *-4", flipped(c.second))
	}
	wide := "(table t)"
	for range 5 {
		wide = "(union " + wide + " " + wide + ")"
	}
	if len(wide) < api.MaxPlan-50 {
		t.Errorf("a plan of %d bytes only", len(wide))
	}
	v := start(t, wide, "t: a Int")
	v.steps("t: 1 *15; 2", "1 *480; 2 *32", "t: 2", "ErrFull", "t: 1 *-1; 2", "1 *-32; 2 *32", "t: 1 *-14; 2 *-2", "1 *-448; 2 *-64")
	power := "(table t)"
	for range 3 {
		power = "(join (a) (a) " + power + " " + power + ")"
	}
	v = start(t, power, "t: a Int")
	v.steps("t: 5 *2; 6", "5 *256; 6", "t: 6", "6 *255", "t: 7", "ErrFull", "t: 5 *-1; 6 *-2; 7", "5 *-255; 6 *-256; 7")
}

// flipped tells the set with each row removed as often as it was added.
func flipped(s string) string { return show(zset.Flip(items(s))) }

// TestP142Names has Deltas of other names, and of one name several times.
func TestP142Names(t *testing.T) {
	v := start(t, "(union (project (x c) (table u)) (table w))", common)
	v.steps(
		"t: 1 'x'", "", "v: 1", "", ": 1", "", "U: 1 1", "", "x: 1", "", "table: 1", "", "t: | v: | w:", "",
		"t: 1 'x' | u: 5 6 | v: 5 | w: 5", "5 *2",
		"w: 5 | t: 2 'x' | w: 6 | u: 6 6 | w: 5; 7", "5 *2; 6 *2; 7",
		"w: 7 *-1 | w: 5 *-1 | w: 7", "5 *-1",
		"w: 8 | w: 8 *-1", "", "w: 8 | u: 8 8 | w: 8 *-1", "8", "w: 8 *-1 | w: 8", "",
		"u: 8 8 *-1 | w: 8 | u: 9 9", "9",
	)
	v.has("5 *3; 6 *2; 7; 8; 9")
	// What is not used may be anything.
	for _, name := range []string{"t", "v", "", "U", "table", "u ", "ww"} {
		for _, s := range wrongSets() {
			v.take([]flow.Delta{{Name: name, Rows: s}})
			got, why := v.take([]flow.Delta{{Name: name, Rows: s}, {Name: "w", Rows: items("1")}, {Name: name, Rows: s}})
			if why != api.OK || show(got) != "1" {
				t.Errorf("P14.2: a Delta of %q beside another: %s", name, told(got, why))
			}
			v.step("w: 1 *-1", "1 *-1")
		}
	}
}

// TestP142OtherOrders makes the same changes in one Step, one by one and in other orders.
func TestP142OtherOrders(t *testing.T) {
	for _, s := range forms {
		first := "t: 1 'x' *2; 2 'y' | u: 1 2; 2 1; 3 3 | w: 2; 3 *2"
		all := deltas("t: 1 'x' *-1 | t: 2 'y' *-1 | t: 3 'x' | t: 0 'z' | t: 3 'x' | u: 1 2 *-1 | u: 3 3 *2 | u: 4 1 | w: 1 | w: 2 *-1 | w: 3 *-1 | t: 1 'x'")
		whole := start(t, s, common)
		whole.take(deltas(first))
		change, _ := whole.take(all)
		for turn := range len(all) + 1 {
			v := start(t, s, common)
			v.take(deltas(first))
			l := append(slices.Clone(all[turn:]), all[:turn]...)
			if turn%2 == 1 {
				slices.Reverse(l)
			}
			var sum api.Set
			for part := range slices.Chunk(l, 1+turn%3) {
				got, why := v.take(part)
				if why != api.OK {
					t.Fatalf("P14.2: %s: %s", s, showErr(why))
				}
				sum, _ = zset.Add(sum, got)
			}
			if show(sum) != show(change) {
				t.Errorf("P14.4: %s: in parts %s, at once %s", s, show(sum), show(change))
			}
			if v.has(show(whole.flow.Rows())); string(v.flow.Save()) != string(whole.flow.Save()) {
				t.Errorf("P14.3: %s: the same tables have other bytes", s)
			}
		}
	}
}

func TestNil(t *testing.T) {
	for _, f := range []*flow.Flow{nil, {}} {
		for _, l := range [][]flow.Delta{nil, {}, deltas("t: 1"), {{Name: "t", Rows: api.Set{{}}}}} {
			if s, why := f.Step(l); len(s) > 0 || why != api.ErrArg {
				t.Errorf("R1: Step: %s", told(s, why))
			}
		}
		if f.Rows() != nil || f.Cols() != nil || f.Save() != nil {
			t.Errorf("R1: %v, %v, %x", f.Rows(), f.Cols(), f.Save())
		}
	}
}

// TestEmptyLists has nil and empty lists mean the same (R4).
func TestEmptyLists(t *testing.T) {
	for _, s := range forms {
		v := start(t, s, common)
		v.take([]flow.Delta{})
		v.take([]flow.Delta{{Name: "t"}, {Name: "u", Rows: api.Set{}}, {}})
		p := read(t, s)
		p.Exprs, p.Cols, p.Left, p.Right, p.Aggs, p.Kids = full(p.Exprs), full(p.Cols), full(p.Left), full(p.Right), full(p.Aggs), full(p.Kids)
		f, why := flow.New(p, v.defs)
		if why != api.OK || f == nil || string(f.Save()) != string(v.flow.Save()) {
			t.Errorf("R4: New of %s with empty lists: %s", s, showErr(why))
		}
	}
}

// full returns a list that is not nil.
func full[T any](l []T) []T { return append([]T{}, l...) }
