package check_test

import (
	"fmt"
	"maps"
	"math/rand"
	"reflect"
	"regexp"
	"slices"
	"strings"
	"testing"

	"confluence/api"
	"confluence/check"
	"confluence/expr"
	"confluence/plan"
)

var namePattern = regexp.MustCompile(`^[a-z]{1,12}$`)

func isName(s string) bool { return namePattern.MatchString(s) && !slices.Contains(words, s) }

// slowDefs returns what Defs is to return, by the chapter's words.
func slowDefs(l []check.Def) api.Errno {
	for i, d := range l {
		var faults []api.Errno
		if !isName(d.Name) {
			faults = append(faults, api.ErrName)
		}
		for _, earlier := range l[:i] {
			if earlier.Name == d.Name {
				faults = append(faults, api.ErrTaken)
			}
		}
		if len(d.Cols) < 1 || len(d.Cols) > 6 {
			faults = append(faults, api.ErrCount)
		}
		for k, c := range d.Cols {
			if !isName(c.Name) || c.Kind != api.Int && c.Kind != api.Text {
				faults = append(faults, api.ErrName)
			}
			for _, earlier := range d.Cols[:k] {
				if earlier.Name == c.Name {
					faults = append(faults, api.ErrTaken)
				}
			}
		}
		if len(faults) > 0 {
			return faults[0]
		}
	}
	return api.OK
}

// write prints a plan as a text, which is one that Read returns only if the plan is.
func write(p api.Plan) string {
	var parts []string
	part := func(l ...string) { parts = append(parts, "("+strings.Join(l, " ")+")") }
	switch p.Kind {
	case api.Table:
		parts = append(parts, "table", p.Name)
	case api.Filter:
		parts = append(parts, "filter")
		for _, e := range p.Exprs {
			parts = append(parts, writeExpr(e))
		}
	case api.Project:
		parts = append(parts, "project")
		for i, e := range p.Exprs {
			if i < len(p.Cols) {
				part(p.Cols[i], writeExpr(e))
			}
		}
	case api.Join:
		parts = append(parts, "join")
		part(p.Left...)
		part(p.Right...)
	case api.Union:
		parts = append(parts, "union")
	case api.Distinct:
		parts = append(parts, "distinct")
	case api.Group:
		parts = append(parts, "group")
		part(p.Left...)
		for _, a := range p.Aggs {
			part(a.Name, a.Fun, a.Col)
		}
	}
	for _, q := range p.Kids {
		parts = append(parts, write(q))
	}
	return "(" + strings.Join(parts, " ") + ")"
}

func writeExpr(e api.Expr) string {
	switch e.Kind {
	case api.Column:
		return e.S
	case api.Number:
		return fmt.Sprint(e.N)
	case api.String:
		return `"` + e.S + `"`
	}
	parts := []string{e.S}
	for _, k := range e.Kids {
		parts = append(parts, writeExpr(k))
	}
	return "(" + strings.Join(parts, " ") + ")"
}

// readable reports whether plan.Read can return p, whose texts are plain.
func readable(p api.Plan) bool {
	q, why, _ := plan.Read(write(p))
	return why == api.OK && fmt.Sprintf("%+v", p) == fmt.Sprintf("%+v", q)
}

// fault is an error and its name.
type fault struct {
	why  api.Errno
	name string
}

// slowOut returns what Out is to return, by the chapter's words: the columns, or all errors in their order.
func slowOut(p api.Plan, l []check.Def) ([]api.Col, []fault) {
	if slowDefs(l) != api.OK {
		return nil, []fault{{api.ErrArg, ""}}
	}
	if !readable(p) {
		return nil, []fault{{api.ErrForm, ""}}
	}
	return slowCols(p, l)
}

func kinds(l []api.Col) map[string]int {
	m := map[string]int{}
	for _, c := range l {
		m[c.Name] = c.Kind
	}
	return m
}

func slowCols(p api.Plan, l []check.Def) ([]api.Col, []fault) {
	var kids [][]api.Col
	for _, q := range p.Kids {
		c, faults := slowCols(q, l)
		if len(faults) > 0 {
			return nil, faults
		}
		kids = append(kids, c)
	}
	var cols []api.Col
	var faults []fault
	switch p.Kind {
	case api.Table:
		faults = []fault{{api.ErrName, p.Name}}
		for _, d := range l {
			if d.Name == p.Name {
				cols, faults = d.Cols, nil
			}
		}
	case api.Filter:
		cols = kids[0]
		kind, why := expr.Type(p.Exprs[0], kids[0])
		if why != api.OK {
			faults = append(faults, fault{why, ""})
		}
		if kind != api.Int {
			faults = append(faults, fault{api.ErrType, ""})
		}
	case api.Project:
		cols, faults = slowProject(p, kids[0])
	case api.Join:
		cols, faults = slowJoin(p, kids[0], kids[1])
	case api.Union:
		cols = kids[0]
		if len(kids[0]) != len(kids[1]) {
			return nil, []fault{{api.ErrCount, ""}}
		}
		for i, c := range kids[0] {
			if c.Kind != kids[1][i].Kind {
				faults = append(faults, fault{api.ErrType, c.Name})
			}
		}
	case api.Distinct:
		cols = kids[0]
	case api.Group:
		cols, faults = slowGroup(p, kids[0])
	}
	return cols, faults
}

func slowProject(p api.Plan, kid []api.Col) (cols []api.Col, faults []fault) {
	for i, name := range p.Cols {
		kind, why := expr.Type(p.Exprs[i], kid)
		if why != api.OK {
			faults = append(faults, fault{why, ""})
		}
		if slices.Index(p.Cols, name) != i {
			faults = append(faults, fault{api.ErrTaken, name})
		}
		cols = append(cols, api.Col{Name: name, Kind: kind})
	}
	if len(cols) > 6 {
		faults = append(faults, fault{api.ErrCount, ""})
	}
	return cols, faults
}

func slowJoin(p api.Plan, a, b []api.Col) (cols []api.Col, faults []fault) {
	if len(p.Left) != len(p.Right) || len(p.Left) == 0 {
		return nil, []fault{{api.ErrCount, ""}}
	}
	left, right := kinds(a), kinds(b)
	for i := range p.Left {
		m, n := p.Left[i], p.Right[i]
		if left[m] == 0 {
			faults = append(faults, fault{api.ErrName, m})
		}
		if right[n] == 0 {
			faults = append(faults, fault{api.ErrName, n})
		}
		if slices.Index(p.Left, m) != i {
			faults = append(faults, fault{api.ErrTaken, m})
		}
		if slices.Index(p.Right, n) != i {
			faults = append(faults, fault{api.ErrTaken, n})
		}
		if left[m] != right[n] {
			faults = append(faults, fault{api.ErrType, m})
		}
	}
	for _, c := range b {
		if slices.Index(p.Right, c.Name) >= 0 {
			continue
		}
		if left[c.Name] != 0 {
			faults = append(faults, fault{api.ErrTaken, c.Name})
		}
		cols = append(cols, c)
	}
	if len(a)+len(cols) > 6 {
		faults = append(faults, fault{api.ErrCount, ""})
	}
	return slices.Concat(a, cols), faults
}

func slowGroup(p api.Plan, kid []api.Col) (cols []api.Col, faults []fault) {
	of := kinds(kid)
	for i, name := range p.Left {
		if of[name] == 0 {
			faults = append(faults, fault{api.ErrName, name})
		}
		if slices.Index(p.Left, name) != i {
			faults = append(faults, fault{api.ErrTaken, name})
		}
		cols = append(cols, api.Col{Name: name, Kind: of[name]})
	}
	for _, a := range p.Aggs {
		if kinds(cols)[a.Name] != 0 {
			faults = append(faults, fault{api.ErrTaken, a.Name})
		}
		if a.Fun != "count" && of[a.Col] == 0 {
			faults = append(faults, fault{api.ErrName, a.Col})
		}
		if a.Fun == "sum" && of[a.Col] != api.Int {
			faults = append(faults, fault{api.ErrType, a.Col})
		}
		kind := api.Int
		if a.Fun == "min" || a.Fun == "max" {
			kind = of[a.Col]
		}
		cols = append(cols, api.Col{Name: a.Name, Kind: kind})
	}
	if len(cols) == 0 || len(cols) > 6 {
		faults = append(faults, fault{api.ErrCount, ""})
	}
	return cols, faults
}

// slow tells what Out is to return, as out does.
func slow(p api.Plan, l []check.Def) string {
	cols, faults := slowOut(p, l)
	if len(faults) == 0 {
		return showCols(cols)
	}
	s := showErr(faults[0].why)
	if faults[0].name != "" {
		s += " " + faults[0].name
	}
	return s
}

// maker makes plans and tables at random, most of which are right, and remembers what the slow model told.
type maker struct {
	*rand.Rand
	odd float64 // how often something is chosen without a look at what is there
}

func (m maker) chance(of float64) bool { return m.Float64() < of }

func pick[T any](m maker, l []T) T { return l[m.Intn(len(l))] }

func (m maker) name() string { return pick(m, strings.Fields("a b c d e f g h i j k l")) }

func (m maker) kind() int { return 1 + m.Intn(2) }

// fresh is a name that may be among the columns, but seldom is.
func (m maker) fresh(l []api.Col) string {
	for {
		name := m.name()
		if kinds(l)[name] == 0 || m.chance(m.odd) {
			return name
		}
	}
}

// there is the name of a column of this Kind (or of any), if there is one.
func (m maker) there(l []api.Col, kind int) string {
	var names []string
	for _, c := range l {
		if kind == 0 || c.Kind == kind {
			names = append(names, c.Name)
		}
	}
	if len(names) == 0 || m.chance(m.odd) {
		return m.name()
	}
	return pick(m, names)
}

func (m maker) tables() []check.Def {
	var l []check.Def
	for _, name := range []string{"s", "t", "u", "v"} {
		var cols []api.Col
		for range 1 + m.Intn(4) {
			cols = append(cols, api.Col{Name: m.fresh(cols), Kind: m.kind()})
		}
		l = append(l, check.Def{Name: name, Cols: cols})
	}
	return l
}

// wreck puts something wrong into tables.
func (m maker) wreck(l []check.Def) {
	d := &l[m.Intn(len(l))]
	switch m.Intn(7) {
	case 0:
		d.Name = pick(m, []string{"", "T", "table", "tttttttttttttt", "t1"})
	case 1:
		d.Name = l[m.Intn(len(l))].Name
	case 2:
		d.Cols = nil
	case 3:
		d.Cols = append(d.Cols, d.Cols...)
	case 4:
		for i := range d.Cols {
			d.Cols[i].Kind += m.Intn(3) - 1
		}
	case 5:
		if len(d.Cols) > 0 {
			d.Cols[m.Intn(len(d.Cols))].Name = pick(m, []string{"", "A", "sum", "zzzzzzzzzzzzzz", "a"})
		}
	case 6:
		for len(d.Cols) < 7+m.Intn(2) {
			d.Cols = append(d.Cols, api.Col{Name: m.name(), Kind: m.kind()})
		}
	}
}

func (m maker) expr(l []api.Col, kind, deep int) api.Expr {
	if m.chance(m.odd) {
		kind = m.kind()
	}
	switch {
	case m.chance(0.5):
		return api.Expr{Kind: api.Column, S: m.there(l, kind)}
	case kind == api.Int && (deep == 0 || m.chance(0.4)):
		return api.Expr{Kind: api.Number, N: int64(m.Intn(20) - 10)}
	case kind == api.Text && (deep == 0 || m.chance(0.4)):
		return api.Expr{Kind: api.String, S: pick(m, []string{"", "x", "y z"})}
	}
	var kids []api.Expr
	op := pick(m, strings.Fields("add sub neg eq lt if"))
	of := []int{api.Int, api.Int}
	switch op {
	case "neg":
		of = of[:1]
	case "eq", "lt":
		of[0] = m.kind()
		of[1] = of[0]
	case "if":
		of = []int{api.Int, kind, kind}
	}
	if kind == api.Text && op != "if" {
		op, of = "cat", []int{api.Text, api.Text}
	}
	for _, k := range of {
		kids = append(kids, m.expr(l, k, deep-1))
	}
	return api.Expr{Kind: api.Apply, S: op, Kids: kids}
}

// plan makes a plan with what its columns would be, if they can be told.
func (m maker) plan(l []check.Def, deep int) (api.Plan, []api.Col) {
	p := m.some(l, deep)
	cols, _ := slowCols(p, l)
	return p, cols
}

func (m maker) some(l []check.Def, deep int) api.Plan {
	kind := api.Table
	if deep > 0 && !m.chance(0.15) {
		kind = 2 + m.Intn(6)
	}
	if kind == api.Table {
		if m.chance(m.odd) {
			return api.Plan{Kind: kind, Name: pick(m, []string{"w", "z", "s"})}
		}
		return api.Plan{Kind: kind, Name: pick(m, l).Name}
	}
	first, a := m.plan(l, deep-1)
	p := api.Plan{Kind: kind, Kids: []api.Plan{first}}
	switch kind {
	case api.Filter:
		p.Exprs = []api.Expr{m.expr(a, api.Int, 2)}
	case api.Project:
		p.Cols, p.Exprs = m.projected(a)
	case api.Join:
		second, b := m.plan(l, deep-1)
		if !m.chance(m.odd) {
			second, b = m.rename(second, b, a)
		}
		p.Kids = append(p.Kids, second)
		p.Left, p.Right = m.keys(a, b)
	case api.Union:
		second, b := m.plan(l, deep-1)
		if !m.chance(2 * m.odd) {
			second, _ = m.rename(second, b, a)
			second.Exprs, second.Cols = nil, nil
			for _, c := range a {
				k := c.Kind
				if m.chance(m.odd / 2) {
					k = 3 - k
				}
				second.Cols, second.Exprs = append(second.Cols, m.name()), append(second.Exprs, m.expr(b, k, 1))
			}
		}
		p.Kids = append(p.Kids, second)
	case api.Group:
		for range m.Intn(3) {
			p.Left = append(p.Left, m.there(a, 0))
		}
		p.Aggs = m.aggs(a, p.Left)
	}
	return p
}

// rename makes a project of all columns of a plan, with names that those of another one seldom have.
func (m maker) rename(p api.Plan, cols, other []api.Col) (api.Plan, []api.Col) {
	q := api.Plan{Kind: api.Project, Kids: []api.Plan{p}}
	var renamed []api.Col
	for _, c := range cols {
		name := m.fresh(slices.Concat(other, renamed))
		q.Cols = append(q.Cols, name)
		q.Exprs = append(q.Exprs, api.Expr{Kind: api.Column, S: c.Name})
		renamed = append(renamed, api.Col{Name: name, Kind: c.Kind})
		if len(other)+len(renamed) > 10 {
			break
		}
	}
	return q, renamed
}

func (m maker) projected(kid []api.Col) (names []string, exprs []api.Expr) {
	var cols []api.Col
	for range 1 + m.Intn(4) + 3*m.Intn(2)*m.Intn(2) {
		kind := m.kind()
		cols = append(cols, api.Col{Name: m.fresh(cols), Kind: kind})
		names = append(names, cols[len(cols)-1].Name)
		exprs = append(exprs, m.expr(kid, kind, 2))
	}
	return names, exprs
}

func (m maker) keys(a, b []api.Col) (left, right []string) {
	for _, c := range a {
		if len(left) > 0 && m.chance(0.6) {
			continue
		}
		left = append(left, c.Name)
		right = append(right, m.there(b, c.Kind))
	}
	if m.chance(m.odd) {
		left = append(left, m.there(a, 0))
	}
	if m.chance(m.odd) {
		right = append(right, m.there(b, 0))
	}
	return left, right
}

func (m maker) aggs(kid []api.Col, left []string) []api.Agg {
	var aggs []api.Agg
	var cols []api.Col
	for _, name := range left {
		cols = append(cols, api.Col{Name: name, Kind: api.Int})
	}
	for range m.Intn(5) + 2*m.Intn(2)*m.Intn(2) {
		a := api.Agg{Name: m.fresh(cols), Fun: pick(m, []string{"count", "sum", "min", "max"})}
		switch a.Fun {
		case "sum":
			a.Col = m.there(kid, api.Int)
		case "min", "max":
			a.Col = m.there(kid, 0)
		}
		cols = append(cols, api.Col{Name: a.Name, Kind: api.Int})
		aggs = append(aggs, a)
	}
	return aggs
}

// sort tells which of the chapter's cases an answer of a plan is, if the plan itself, and not one of its Kids, is why.
func sortOf(p api.Plan, l []check.Def) string {
	for _, q := range p.Kids {
		if _, faults := slowCols(q, l); len(faults) > 0 {
			return sortOf(q, l)
		}
	}
	_, faults := slowCols(p, l)
	if len(faults) == 0 {
		return fmt.Sprint(p.Kind, " OK")
	}
	if len(faults) > 1 && faults[0] != faults[1] {
		return fmt.Sprint(p.Kind, " ", showErr(faults[0].why), " then ", showErr(faults[1].why))
	}
	return fmt.Sprint(p.Kind, " ", showErr(faults[0].why))
}

// TestP102Slow holds Out against the slow model with many plans, right and wrong.
func TestP102Slow(t *testing.T) {
	seen := map[string]int{}
	for seed := range int64(40) {
		m := maker{rand.New(rand.NewSource(seed)), []float64{0, 0.02, 0.05, 0.2, 0.6}[seed%5]}
		for range 1500 {
			l := m.tables()
			p, _ := m.plan(l, 1+m.Intn(3))
			want := slow(p, l)
			if got := out(p, l); got != want {
				t.Fatalf("Out of %s, tables %v: %s, not %s", write(p), l, got, want)
			}
			if want != "ErrForm" && want != "ErrArg" {
				seen[sortOf(p, l)]++
			}
		}
	}
	// Each case of the chapter must have come up.
	for _, s := range strings.Split("1 OK;2 OK;3 OK;4 OK;5 OK;6 OK;7 OK;1 ErrName;2 ErrName then ErrType;2 ErrType;3 ErrName;3 ErrType;3 ErrTaken;3 ErrCount;"+
		"3 ErrTaken then ErrName;3 ErrTaken then ErrType;3 ErrName then ErrTaken;3 ErrType then ErrTaken;3 ErrType then ErrCount;3 ErrTaken then ErrCount;4 ErrCount;4 ErrName then ErrType;4 ErrName then ErrTaken;4 ErrTaken;4 ErrTaken then ErrName;4 ErrTaken then ErrType;4 ErrType;4 ErrType then ErrName;4 ErrType then ErrTaken;4 ErrTaken then ErrCount;5 ErrCount;5 ErrType;7 ErrName;7 ErrName then ErrType;7 ErrTaken;7 ErrTaken then ErrName;7 ErrTaken then ErrType;7 ErrType;7 ErrType then ErrName;7 ErrType then ErrTaken;7 ErrCount;7 ErrName then ErrTaken;7 ErrTaken then ErrCount;7 ErrType then ErrCount", ";") {
		if seen[s] < 3 {
			t.Errorf("of Kind and error %q there were %d plans; of others: %v", s, seen[s], slices.Sorted(maps.Keys(seen)))
		}
	}
}

// TestP101Slow holds Defs against the slow model with tables of which most are wrong.
func TestP101Slow(t *testing.T) {
	seen := map[api.Errno]int{}
	p := read(t, "(table s)")
	for seed := range int64(20) {
		m := maker{rand.New(rand.NewSource(seed)), []float64{0, 0.02, 0.1, 0.3}[seed%4]}
		for range 1500 {
			l := m.tables()[:m.Intn(5)]
			for n := m.Intn(4); n > 0 && len(l) > 0; n-- {
				m.wreck(l)
			}
			want := slowDefs(l)
			seen[want]++
			if got := check.Defs(l); got != want {
				t.Fatalf("Defs of %v: %s, not %s", l, showErr(got), showErr(want))
			}
			if got := out(p, l); got != slow(p, l) {
				t.Fatalf("Out of (table s), tables %v: %s, not %s", l, got, slow(p, l))
			}
		}
	}
	for _, why := range []api.Errno{api.OK, api.ErrName, api.ErrTaken, api.ErrCount} {
		if seen[why] < 100 {
			t.Errorf("%s came up %d times", showErr(why), seen[why])
		}
	}
}

// room returns a list with room behind it with something in it.
func room[T any](l []T, spare T) []T {
	n := len(l)
	return append(slices.Clone(l), spare, spare, spare)[:n]
}

func roomyExpr(e api.Expr) api.Expr {
	e.Kids = room(e.Kids, api.Expr{Kind: api.Column, S: "spare"})
	for i := range e.Kids {
		e.Kids[i] = roomyExpr(e.Kids[i])
	}
	return e
}

// roomy returns a copy of p whose lists have room.
func roomy(p api.Plan) api.Plan {
	p.Exprs = room(p.Exprs, api.Expr{Kind: api.Column, S: "spare"})
	for i := range p.Exprs {
		p.Exprs[i] = roomyExpr(p.Exprs[i])
	}
	p.Cols, p.Left, p.Right = room(p.Cols, "spare"), room(p.Left, "spare"), room(p.Right, "spare")
	p.Aggs = room(p.Aggs, api.Agg{Name: "spare", Fun: "sum", Col: "spare"})
	p.Kids = room(p.Kids, api.Plan{Kind: api.Table, Name: "spare"})
	for i := range p.Kids {
		p.Kids[i] = roomy(p.Kids[i])
	}
	return p
}

func roomyDefs(l []check.Def) []check.Def {
	l = room(l, check.Def{Name: "spare", Cols: cols("spare Int")})
	for i := range l {
		l[i].Cols = room(l[i].Cols, api.Col{Name: "spare", Kind: api.Text})
	}
	return l
}

// whole tells everything of lists, as far as they have room.
func whole(p api.Plan, l []check.Def) string {
	var b strings.Builder
	var walk func(v reflect.Value)
	walk = func(v reflect.Value) {
		switch v.Kind() {
		case reflect.Slice:
			fmt.Fprint(&b, "[", v.Len(), ":")
			v = v.Slice(0, v.Cap())
			for i := range v.Len() {
				walk(v.Index(i))
			}
			fmt.Fprint(&b, "]")
		case reflect.Struct:
			for i := range v.NumField() {
				walk(v.Field(i))
			}
		default:
			fmt.Fprintf(&b, "%v ", v)
		}
	}
	walk(reflect.ValueOf(p))
	walk(reflect.ValueOf(l))
	return b.String()
}

// TestP102Memory holds Out to R2: what is handed in isn't turned, and the columns are new memory.
func TestP102Memory(t *testing.T) {
	l := roomyDefs(defs("t: a Int, b Text, c Int", "u: d Int, b Text, e Text", "one: x Int"))
	for _, s := range []string{
		"(table t)", "(filter a (table t))", "(project (x a) (table t))", "(distinct (table t))",
		"(union (table t) (table t))", "(union (table one) (table one))", "(distinct (filter x (union (table one) (filter 1 (table one)))))",
		"(join (a) (x) (table t) (table one))", "(join (x) (d) (table one) (table u))", "(join (b) (b) (table t) (table u))",
		"(group (a) (n count) (table t))", "(group (b) (table t))", "(group () (n min b) (table t))",
		"(table ghost)", "(join (a) (b) (table t) (table u))", "(filter b (table t))", "(group () (table t))", "(join (a) (d) (table t) (table u))", "(union (table t) (table u))",
	} {
		p := roomy(read(t, s))
		before := whole(p, l)
		c, why, _ := check.Out(p, l)
		if whole(p, l) != before {
			t.Errorf("Out of %s turned what it was given", s)
		}
		want := slow(p, l)
		if got := out(p, l); got != want {
			t.Errorf("Out of %s: %s, not %s", s, got, want)
		}
		// Whatever is done to the columns, and behind them, is nothing to the arguments or to a later call.
		c = c[:cap(c)]
		for i := range c {
			c[i] = api.Col{Name: "turned", Kind: 9}
		}
		if whole(p, l) != before {
			t.Errorf("Out of %s: the columns share memory with what was given", s)
		}
		if got := out(p, l); got != want {
			t.Errorf("Out of %s, once more: %s, not %s", s, got, want)
		}
		if why == api.OK && len(c) == 0 {
			t.Errorf("Out of %s: no columns", s)
		}
	}
}

// TestP101Memory holds Defs to R2.
func TestP101Memory(t *testing.T) {
	for _, l := range [][]check.Def{
		defs("t: a Int, b Text", "s: b Int", "a: a Int"),
		defs("z: b Int, a Int", "y: b Int", "z: a Int"),
		defs("z: b Int, b Int", "T: a Int"),
	} {
		l = roomyDefs(l)
		before := whole(api.Plan{}, l)
		why := check.Defs(l)
		if whole(api.Plan{}, l) != before {
			t.Errorf("Defs turned what it was given: %v", l)
		}
		if again := check.Defs(l); again != why {
			t.Errorf("Defs of %v: %s, and once more %s", l, showErr(why), showErr(again))
		}
	}
}
