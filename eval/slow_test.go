package eval_test

import (
	"cmp"
	"fmt"
	"maps"
	"math/big"
	"math/rand"
	"reflect"
	"slices"
	"strings"
	"testing"

	"confluence/api"
	"confluence/check"
	"confluence/eval"
	"confluence/expr"
	"confluence/plan"
	"confluence/row"
	"confluence/zset"
)

// slow evaluates plans by the chapter's words: a result is a list of rows in order, of which each stands as often as it is contained.
type slow struct {
	tables []eval.Table
	seen   map[string]int // how often each Kind had which outcome of its own
}

func compare(a, b api.Row) int {
	for i := range a {
		x, y := a[i], b[i]
		if c := cmp.Or(cmp.Compare(x.Kind, y.Kind), cmp.Compare(x.N, y.N), strings.Compare(x.S, y.S)); c != 0 {
			return c
		}
	}
	return 0
}

func (s slow) cols(p api.Plan) []api.Col {
	c, _, _ := check.Out(p, eval.Defs(s.tables))
	return c
}

// at returns the value of a row in the column with this name.
func at(cols []api.Col, r api.Row, name string) api.Value {
	for i, c := range cols {
		if c.Name == name {
			return r[i]
		}
	}
	panic("no column " + name)
}

func (s slow) of(p api.Plan) ([]api.Row, api.Errno) {
	var kids [][]api.Row
	for _, q := range p.Kids {
		rows, why := s.of(q)
		if why != api.OK {
			return nil, why
		}
		kids = append(kids, rows)
	}
	rows, why := s.step(p, kids)
	if why == api.OK && len(rows) > 512 {
		why = api.ErrFull
	}
	outcome := fmt.Sprint(p.Kind, " ", showErr(why))
	if why == api.OK && len(rows) == 0 {
		outcome = fmt.Sprint(p.Kind, " no rows")
	}
	s.seen[outcome]++
	if why != api.OK {
		return nil, why
	}
	slices.SortFunc(rows, compare)
	return rows, api.OK
}

func (s slow) step(p api.Plan, kids [][]api.Row) (rows []api.Row, why api.Errno) {
	var cols [][]api.Col
	for _, q := range p.Kids {
		cols = append(cols, s.cols(q))
	}
	switch p.Kind {
	case api.Table:
		return s.table(p.Name), api.OK
	case api.Filter:
		for _, r := range kids[0] {
			v, why := expr.Eval(p.Exprs[0], cols[0], r)
			if why != api.OK {
				return nil, why
			}
			if v != num(0) {
				rows = append(rows, r)
			}
		}
	case api.Project:
		for _, r := range kids[0] {
			made := make(api.Row, len(p.Exprs))
			for i, e := range p.Exprs {
				if made[i], why = expr.Eval(e, cols[0], r); why != api.OK {
					return nil, why
				}
			}
			rows = append(rows, made)
		}
	case api.Join:
		rows = slowJoin(p, kids[0], kids[1], cols[0], cols[1])
	case api.Union:
		rows = slices.Concat(kids[0], kids[1])
	case api.Distinct:
		seen := map[string]bool{}
		for _, r := range kids[0] {
			if !seen[showRow(r)] {
				rows = append(rows, r)
			}
			seen[showRow(r)] = true
		}
	case api.Group:
		return slowGroup(p, kids[0], cols[0])
	}
	return rows, api.OK
}

// table returns the rows of a table, or more than enough of them.
func (s slow) table(name string) []api.Row {
	var rows []api.Row
	for _, t := range s.tables {
		for _, x := range t.Rows {
			for n := real(x.T); t.Name == name && n > 0 && len(rows) < 600; n-- {
				rows = append(rows, x.Row)
			}
		}
	}
	return rows
}

func slowJoin(p api.Plan, a, b []api.Row, left, right []api.Col) []api.Row {
	var rows []api.Row
	for _, x := range a {
		for _, y := range b {
			equal := true
			for i := range p.Left {
				equal = equal && at(left, x, p.Left[i]) == at(right, y, p.Right[i])
			}
			// More than enough are enough.
			if !equal || len(rows) > 600 {
				continue
			}
			r := slices.Clone(x)
			for i, c := range right {
				if !slices.Contains(p.Right, c.Name) {
					r = append(r, y[i])
				}
			}
			rows = append(rows, r)
		}
	}
	return rows
}

func slowGroup(p api.Plan, kid []api.Row, cols []api.Col) ([]api.Row, api.Errno) {
	groups := map[string][]api.Row{}
	for _, r := range kid {
		key := ""
		for _, name := range p.Left {
			key += showRow(api.Row{at(cols, r, name)}) + "|"
		}
		groups[key] = append(groups[key], r)
	}
	var rows []api.Row
	for _, key := range slices.Sorted(maps.Keys(groups)) {
		var made api.Row
		for _, name := range p.Left {
			made = append(made, at(cols, groups[key][0], name))
		}
		for _, a := range p.Aggs {
			var l []api.Value
			for _, r := range groups[key] {
				if a.Col != "" {
					l = append(l, at(cols, r, a.Col))
				}
			}
			v, ok := slowAgg(a.Fun, len(groups[key]), l)
			if !ok {
				return nil, api.ErrOver
			}
			made = append(made, v)
		}
		rows = append(rows, made)
	}
	return rows, api.OK
}

// slowAgg returns what a function makes of n rows, which have these values, or false for a sum that is too great.
func slowAgg(fun string, n int, l []api.Value) (api.Value, bool) {
	if fun == "count" {
		return num(int64(n)), true
	}
	sum := new(big.Int)
	for _, v := range l {
		sum.Add(sum, big.NewInt(v.N))
	}
	slices.SortFunc(l, func(a, b api.Value) int { return compare(api.Row{a}, api.Row{b}) })
	switch fun {
	case "min":
		return l[0], true
	case "max":
		return l[n-1], true
	}
	return num(sum.Int64()), sum.IsInt64()
}

// tell tells what Eval is to return, as result does.
func (s slow) tell(p api.Plan) string {
	if _, why, _ := check.Out(p, eval.Defs(s.tables)); why != api.OK {
		return showErr(why)
	}
	rows, why := s.of(p)
	if why != api.OK {
		return showErr(why)
	}
	var l api.Set
	for _, r := range rows {
		if n := len(l); n > 0 && compare(l[n-1].Row, r) == 0 {
			l[n-1].T++
		} else {
			l = append(l, api.Item{Row: r, T: 1})
		}
	}
	return show(l)
}

// maker makes tables and plans at random. The plans are such that check.Out finds nothing wrong.
type maker struct {
	*rand.Rand
	big bool // numbers and texts are such that errors are frequent
}

func pick[T any](m maker, l []T) T { return l[m.Intn(len(l))] }

func (m maker) name() string { return pick(m, strings.Fields("a b c d e f g h i j k l m n o p")) }

func (m maker) value(kind int) api.Value {
	switch {
	case kind == api.Text && m.big:
		return str(pick(m, []string{"", "x", "y", "xy", "0123456789012345678901234", longest}))
	case kind == api.Text:
		return str(pick(m, []string{"", "x", "y", "xy"}))
	case m.big && m.Intn(3) == 0:
		return num(edge(m.Rand))
	}
	return num(int64(m.Intn(5)) - 1)
}

func (m maker) often() float64 {
	switch m.Intn(30) {
	case 0:
		return float64(1 + m.Intn(520))
	case 1, 2:
		return float64(1 + m.Intn(60))
	case 3, 4, 5, 6, 7, 8, 9:
		return float64(1 + m.Intn(3))
	}
	return 1
}

func (m maker) table(name string) eval.Table {
	t := eval.Table{Name: name}
	var r api.Row
	for range 1 + m.Intn(4) {
		c := api.Col{Name: m.name(), Kind: 1 + m.Intn(2)}
		if _, taken := row.Find(t.Cols, c.Name); !taken {
			t.Cols = append(t.Cols, c)
		}
	}
	var items []api.Item
	for range pick(m, []int{0, 1, 2, 4, 4, 6, 8, 12, 40}) {
		r = nil
		for _, c := range t.Cols {
			r = append(r, m.value(c.Kind))
		}
		items = append(items, api.Item{Row: r, T: complex(m.often(), 0)})
	}
	t.Rows, _ = zset.Make(items)
	return t
}

// column returns the name of a column of this Kind, or of any for 0; none if there is none.
func (m maker) column(l []api.Col, kind int) string {
	var names []string
	for _, c := range l {
		if kind == 0 || c.Kind == kind {
			names = append(names, c.Name)
		}
	}
	if len(names) == 0 {
		return ""
	}
	return pick(m, names)
}

func (m maker) expr(l []api.Col, kind, deep int) string {
	if name := m.column(l, kind); name != "" && (deep <= 0 || m.Intn(3) == 0) {
		return name
	}
	if deep <= 0 || m.Intn(6) == 0 {
		return showRow(api.Row{m.value(kind)})
	}
	if m.Intn(5) == 0 {
		return fmt.Sprintf("(if %s %s %s)", m.expr(l, api.Int, deep-1), m.expr(l, kind, deep-1), m.expr(l, kind, deep-1))
	}
	if kind == api.Text {
		return fmt.Sprintf("(cat %s %s)", m.expr(l, kind, deep-1), m.expr(l, kind, deep-1))
	}
	op, of := pick(m, strings.Fields("add sub mul neg eq lt and or not len")), api.Int
	switch op {
	case "len":
		of = api.Text
	case "eq", "lt":
		of = 1 + m.Intn(2)
	}
	if op == "neg" || op == "not" || op == "len" {
		return fmt.Sprintf("(%s %s)", op, m.expr(l, of, deep-1))
	}
	return fmt.Sprintf("(%s %s %s)", op, m.expr(l, of, deep-1), m.expr(l, of, deep-1))
}

// plan returns a plan of these tables with its columns.
func (m maker) plan(defs []check.Def, deep int) (string, []api.Col) {
	for {
		s := strings.ReplaceAll(m.some(defs, deep), "'", "\"")
		p, why, _ := plan.Read(s)
		if why != api.OK {
			continue
		}
		if cols, why, _ := check.Out(p, defs); why == api.OK {
			return s, cols
		}
	}
}

func (m maker) some(defs []check.Def, deep int) string {
	if deep == 0 || m.Intn(6) == 0 {
		return "(table " + pick(m, defs).Name + ")"
	}
	kid, cols := m.plan(defs, deep-1)
	switch m.Intn(6) {
	case 0:
		return fmt.Sprintf("(filter %s %s)", m.expr(cols, api.Int, 2), kid)
	case 1:
		return fmt.Sprintf("(project %s %s)", m.projected(cols), kid)
	case 2:
		other, more := m.plan(defs, deep-1)
		left, right := m.column(cols, 0), ""
		i, _ := row.Find(cols, left)
		if right = m.column(more, cols[i].Kind); right == "" {
			return ""
		}
		if m.Intn(3) == 0 {
			first := m.column(cols, 0)
			i, _ = row.Find(cols, first)
			left, right = left+" "+first, right+" "+m.column(more, cols[i].Kind)
		}
		return fmt.Sprintf("(join (%s) (%s) %s %s)", left, right, kid, other)
	case 3:
		other, more := m.plan(defs, deep-1)
		if m.Intn(4) == 0 {
			return fmt.Sprintf("(union %s %s)", kid, kid)
		}
		var l []string
		for i, c := range cols {
			l = append(l, fmt.Sprintf("(%c %s)", 'a'+i, m.expr(more, c.Kind, 1)))
		}
		return fmt.Sprintf("(union %s (project %s %s))", kid, strings.Join(l, " "), other)
	case 4:
		return fmt.Sprintf("(distinct %s)", kid)
	}
	return fmt.Sprintf("(group (%s) %s %s)", m.left(cols), m.aggs(cols), kid)
}

func (m maker) projected(cols []api.Col) string {
	var l []string
	for range 1 + m.Intn(3) {
		l = append(l, fmt.Sprintf("(%s %s)", m.name(), m.expr(cols, 1+m.Intn(2), 2)))
	}
	return strings.Join(l, " ")
}

func (m maker) left(cols []api.Col) string {
	var l []string
	for range m.Intn(3) {
		l = append(l, m.column(cols, 0))
	}
	return strings.Join(l, " ")
}

func (m maker) aggs(cols []api.Col) string {
	var l []string
	for range m.Intn(4) {
		switch m.Intn(4) {
		case 0:
			l = append(l, fmt.Sprintf("(%s count)", m.name()))
		case 1:
			l = append(l, fmt.Sprintf("(%s min %s)", m.name(), m.column(cols, 0)))
		case 2:
			l = append(l, fmt.Sprintf("(%s max %s)", m.name(), m.column(cols, 0)))
		case 3:
			if name := m.column(cols, api.Int); name != "" {
				l = append(l, fmt.Sprintf("(%s sum %s)", m.name(), name))
			}
		}
	}
	return strings.Join(l, " ")
}

// TestP111Slow holds Eval against the slow model with many plans and tables, and its results to P11.2.
func TestP111Slow(t *testing.T) {
	seen := map[string]int{}
	for seed := range int64(30) {
		m := maker{rand.New(rand.NewSource(seed)), seed%2 == 1}
		for range 150 {
			l := []eval.Table{m.table("s"), m.table("t"), m.table("u")}
			for range 4 {
				s, _ := m.plan(eval.Defs(l), 1+m.Intn(4))
				p := read(t, s)
				want := slow{l, seen}.tell(p)
				if got := result(p, l); got != want {
					t.Fatalf("Eval of %s, tables %v: %s, not %s", s, l, got, want)
				}
				fits(t, p, l)
			}
		}
	}
	// Each Kind must have had each outcome that it can have.
	for outcome := range strings.SplitSeq("1 OK;1 no rows;1 ErrFull;2 OK;2 no rows;2 ErrOver;2 ErrLong;3 OK;3 no rows;3 ErrOver;3 ErrLong;4 OK;4 no rows;4 ErrFull;5 OK;5 no rows;5 ErrFull;6 OK;6 no rows;7 OK;7 no rows;7 ErrOver", ";") {
		if seen[outcome] < 20 {
			t.Errorf("outcome %q came up %d times only", outcome, seen[outcome])
		}
		delete(seen, outcome)
	}
	if len(seen) > 0 {
		t.Errorf("outcomes that cannot be: %v", seen)
	}
}

// room returns a list with room behind it with something in it.
func room[T any](l []T, spare T) []T {
	n := len(l)
	return append(slices.Clone(l), spare, spare, spare)[:n]
}

func roomyExprs(l []api.Expr) []api.Expr {
	l = room(l, api.Expr{Kind: api.Column, S: "spare"})
	for i := range l {
		l[i].Kids = roomyExprs(l[i].Kids)
	}
	return l
}

// roomy returns a copy of p whose lists have room.
func roomy(p api.Plan) api.Plan {
	p.Exprs = roomyExprs(p.Exprs)
	p.Cols, p.Left, p.Right = room(p.Cols, "spare"), room(p.Left, "spare"), room(p.Right, "spare")
	p.Aggs = room(p.Aggs, api.Agg{Name: "spare", Fun: "sum", Col: "spare"})
	p.Kids = room(p.Kids, api.Plan{Kind: api.Table, Name: "spare"})
	for i := range p.Kids {
		p.Kids[i] = roomy(p.Kids[i])
	}
	return p
}

// roomyTables returns a copy of l whose lists have room.
func roomyTables(l []eval.Table) []eval.Table {
	l = room(l, table("spare: spare Int", "12345"))
	for i := range l {
		l[i].Cols = room(l[i].Cols, api.Col{Name: "spare", Kind: api.Text})
		l[i].Rows = room(l[i].Rows, api.Item{Row: api.Row{num(12345)}, T: 9})
		for k := range l[i].Rows {
			l[i].Rows[k].Row = room(l[i].Rows[k].Row, num(54321))
		}
	}
	return l
}

// whole tells everything of a value, its lists as far as they have room.
func whole(values ...any) string {
	var b strings.Builder
	var walk func(v reflect.Value)
	walk = func(v reflect.Value) {
		switch v.Kind() {
		case reflect.Slice:
			fmt.Fprint(&b, "[", v.Len(), ":")
			v = v.Slice(0, v.Cap())
			for i := range v.Len() {
				walk(v.Index(i))
			}
			fmt.Fprint(&b, "]")
		case reflect.Struct:
			for i := range v.NumField() {
				walk(v.Field(i))
			}
		default:
			fmt.Fprintf(&b, "%v ", v)
		}
	}
	for _, v := range values {
		walk(reflect.ValueOf(v))
	}
	return b.String()
}

// span is the memory of a list, with its room.
type span struct{ from, to uintptr }

// spans returns the memory of every list in v.
func spans(v reflect.Value) []span {
	var all []span
	switch v.Kind() {
	case reflect.Struct:
		for i := range v.NumField() {
			all = append(all, spans(v.Field(i))...)
		}
	case reflect.Slice:
		if v.Cap() > 0 {
			all = append(all, span{v.Pointer(), v.Pointer() + uintptr(v.Cap())*v.Type().Elem().Size()})
		}
		for i := range v.Len() {
			all = append(all, spans(v.Index(i))...)
		}
	}
	return all
}

// apart reports whether no two lists of some values share memory.
func apart(values ...any) bool {
	var all []span
	for _, v := range values {
		all = append(all, spans(reflect.ValueOf(v))...)
	}
	slices.SortFunc(all, func(a, b span) int { return cmp.Compare(a.from, b.from) })
	for i := 1; i < len(all); i++ {
		if all[i].from < all[i-1].to {
			return false
		}
	}
	return true
}

// memoryPlans are plans of each Kind, of the tables of memoryTables, right and wrong.
var memoryPlans = []string{
	"(table t)", "(filter 1 (table t))", "(filter (lt a 2) (table t))", "(project (x a) (y b) (table t))", "(project (x b) (table t))",
	"(join (a) (c) (table t) (table u))", "(join (a c) (c a) (table t) (project (a a) (c c) (table u)))", "(union (table t) (table t))", "(union (table u) (table u))",
	"(distinct (table t))", "(distinct (union (table t) (distinct (table t))))", "(group (a) (n count) (table t))", "(group (b a) (m min b) (table t))", "(group () (s sum a) (k max b) (table t))",
	"(union (filter 1 (table t)) (filter 0 (table t)))", "(union (filter 0 (table t)) (table t))",
	"(table ghost)", "(filter (neg (sub -9223372036854775807 a)) (table t))", "(project (x (cat b \"0123456789012345678901234567890123456789\")) (table t))", "(table full)", "(group () (s sum a) (table over))",
}

func memoryTables() []eval.Table {
	return []eval.Table{
		table("t: a Int, b Text, c Int", "1 'x' 1; 1 'y' 2 *3; 2 'x' 1"),
		table("u: c Int, d Text, a Int", "1 'x' 1; 1 'x' 2 *3; 2 'x' 1; 3 'q' 0"),
		table("full: a Int", "1 *513"),
		table("over: a Int", "9223372036854775807 *2"),
		table("none: a Int", ""),
	}
}

// TestP111Memory holds Eval to R2: what is handed in isn't turned, nor what it has room for, and the result is new memory.
func TestP111Memory(t *testing.T) {
	for _, s := range memoryPlans {
		bare := memoryTables()
		l, p := roomyTables(bare), roomy(read(t, s))
		want := slow{bare, map[string]int{}}.tell(p)
		before := whole(p, l)
		got, why := eval.Eval(p, l)
		if whole(p, l) != before {
			t.Errorf("Eval of %s turned what it was given", s)
		}
		if !apart(got, p, l) {
			t.Errorf("Eval of %s: the result shares memory", s)
		}
		if why == api.OK && show(got) != want {
			t.Errorf("Eval of %s: %s, not %s", s, show(got), want)
		}
		// Whatever is done to the result, and behind it, is nothing to a later call.
		for i := range got {
			r := got[i].Row[:cap(got[i].Row)]
			for k := range r {
				r[k] = str("turned")
			}
		}
		clear(got[:cap(got)])
		if whole(p, l) != before {
			t.Errorf("Eval of %s: the result shares memory with what was given", s)
		}
		if got := result(p, l); got != want {
			t.Errorf("Eval of %s, once more: %s, not %s", s, got, want)
		}
		// Nor is anything kept: the same lists with other rows give another result.
		for i := range l {
			l[i].Rows = nil
		}
		if got := result(p, l); got != (slow{l, map[string]int{}}).tell(p) {
			t.Errorf("Eval of %s without rows: %s", s, got)
		}
	}
	// Rows of one memory in two tables, and twice in one plan.
	l := memoryTables()[:1]
	l = append(l, l[0])
	l[1].Name = "v"
	if got, _ := eval.Eval(read(t, "(union (table t) (table v))"), l); !apart(got, l[0]) || show(got) != "1 'x' 1 *2; 1 'y' 2 *6; 2 'x' 1 *2" {
		t.Errorf("of two tables of one memory: %s", show(got))
	}
}

// TestRightMemory holds Right and Defs to R2.
func TestRightMemory(t *testing.T) {
	lists := append(rightTables(), memoryTables())
	for _, bare := range append(lists, wrongTables()...) {
		l := roomyTables(bare)
		before := whole(l)
		right, defs := eval.Right(l), eval.Defs(l)
		if whole(l) != before {
			t.Errorf("what was given is turned: %v", l)
		}
		if right != eval.Right(bare) || fmt.Sprint(defs) != fmt.Sprint(eval.Defs(bare)) {
			t.Errorf("room counts: %v", bare)
		}
		if !apart(defs, l) {
			t.Errorf("Defs of %v: shares memory", bare)
		}
		for _, d := range defs {
			clear(d.Cols[:cap(d.Cols)])
		}
		clear(defs[:cap(defs)])
		if whole(l) != before || right != eval.Right(l) || fmt.Sprint(eval.Defs(l)) != fmt.Sprint(eval.Defs(bare)) {
			t.Errorf("of %v: something is kept", bare)
		}
	}
}

// TestP112 asks of plans of each Kind whether their rows fit the columns that check.Out returns, in number and in Kind.
func TestP112(t *testing.T) {
	l := []eval.Table{table("t: a Int, b Text", "1 'x' *2; 2 'y'"), table("u: b Text, a Int, c Text", "'x' 1 'p'; 'y' 1 'q' *3")}
	for s, want := range map[string]string{
		"(table u)":            "2 1 2",
		"(filter a (table u))": "2 1 2",
		"(project (x b) (y a) (z (len b)) (table t))":                     "2 1 1",
		"(join (a) (a) (table t) (project (a a) (c c) (table u)))":        "1 2 2",
		"(join (b a) (b a) (table u) (table t))":                          "2 1 2",
		"(union (project (x b) (table t)) (project (y c) (table u)))":     "2",
		"(distinct (table u))":                                            "2 1 2",
		"(group (c a) (n count) (s sum a) (l min b) (g max a) (table u))": "2 1 1 1 2 1",
		"(group () (l max b) (n count) (table t))":                        "2 1",
	} {
		p := read(t, s)
		fits(t, p, l)
		rows, why := eval.Eval(p, l)
		if why != api.OK || len(rows) == 0 {
			t.Errorf("Eval of %s: %s, no rows", s, showErr(why))
		}
		for _, x := range rows {
			var kinds []string
			for _, v := range x.Row {
				kinds = append(kinds, fmt.Sprint(v.Kind))
			}
			if got := strings.Join(kinds, " "); got != want {
				t.Errorf("Eval of %s: a row of Kinds %s, not %s", s, got, want)
			}
		}
	}
}

// TestP111Nil has nil and empty lists mean the same (R4).
func TestP111Nil(t *testing.T) {
	for _, s := range []string{"(table t)", "(group (a) (table t))", "(group () (n count) (table t))", "(distinct (table t))", "(join (a) (a) (table t) (table t))", "(filter a (union (table t) (table t)))"} {
		p := read(t, s)
		empty := roomy(p)
		for _, rows := range []api.Set{nil, {}, set("1; 2")} {
			l := one("a Int", "")
			l[0].Rows = rows
			if got, want := result(empty, l), result(p, l); got != want {
				t.Errorf("%s: with empty lists %s, with nil %s", s, got, want)
			}
			if rows == nil && result(p, l) != "" {
				t.Errorf("%s of no rows: %s", s, result(p, l))
			}
		}
		if got := result(p, []eval.Table{}); got != "ErrName" {
			t.Errorf("%s of no tables: %s", s, got)
		}
	}
}
