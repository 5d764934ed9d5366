package flow_test

import (
	"fmt"
	"math"
	"math/rand"
	"slices"
	"strings"
	"testing"

	"confluence/api"
	"confluence/check"
	"confluence/flow"
	"confluence/plan"
	"confluence/row"
	"confluence/zset"
)

// maker makes definitions, plans and Deltas at random. The plans are such that check.Out finds nothing wrong.
type maker struct {
	*rand.Rand
	big bool // numbers and texts are such that errors are frequent
}

func pick[T any](m maker, l []T) T { return l[m.Intn(len(l))] }

func (m maker) name() string { return pick(m, strings.Fields("a b c d e f g h i j k l m n o p")) }

func (m maker) value(kind int) api.Value {
	switch {
	case kind == api.Text && m.big && m.Intn(2) == 0:
		return str(pick(m, []string{"0123456789012345678901234", longest}))
	case kind == api.Text:
		return str(pick(m, []string{"", "x", "y", "xy"}))
	case m.big && m.Intn(4) == 0:
		return num(pick(m, []int64{math.MaxInt64, math.MinInt64, math.MaxInt64 - 1, math.MinInt64 + 1, 1 << 62, -1 << 62, 1 << 32}))
	}
	return num(int64(m.Intn(5)) - 1)
}

func (m maker) def(name string) check.Def {
	d := check.Def{Name: name}
	for range 1 + m.Intn(3) {
		c := api.Col{Name: m.name(), Kind: 1 + m.Intn(2)}
		if _, taken := row.Find(d.Cols, c.Name); !taken {
			d.Cols = append(d.Cols, c)
		}
	}
	return d
}

// column returns the name of a column of this Kind, or of any for 0; none if there is none.
func (m maker) column(l []api.Col, kind int) string {
	var names []string
	for _, c := range l {
		if kind == 0 || c.Kind == kind {
			names = append(names, c.Name)
		}
	}
	if len(names) == 0 {
		return ""
	}
	return pick(m, names)
}

func (m maker) expr(l []api.Col, kind, deep int) string {
	if name := m.column(l, kind); name != "" && (deep <= 0 || m.Intn(3) == 0) {
		return name
	}
	if deep <= 0 || m.Intn(6) == 0 {
		return strings.ReplaceAll(showRow(api.Row{m.value(kind)}), "'", "\"")
	}
	if m.Intn(5) == 0 {
		return fmt.Sprintf("(if %s %s %s)", m.expr(l, api.Int, deep-1), m.expr(l, kind, deep-1), m.expr(l, kind, deep-1))
	}
	if kind == api.Text {
		return fmt.Sprintf("(cat %s %s)", m.expr(l, kind, deep-1), m.expr(l, kind, deep-1))
	}
	op, of := pick(m, strings.Fields("add sub mul neg eq lt and or not len")), api.Int
	switch op {
	case "len":
		of = api.Text
	case "eq", "lt":
		of = 1 + m.Intn(2)
	}
	if op == "neg" || op == "not" || op == "len" {
		return fmt.Sprintf("(%s %s)", op, m.expr(l, of, deep-1))
	}
	return fmt.Sprintf("(%s %s %s)", op, m.expr(l, of, deep-1), m.expr(l, of, deep-1))
}

// plan returns a plan of these tables with its columns.
func (m maker) plan(l []check.Def, deep int) (string, []api.Col) {
	for {
		s := m.some(l, deep)
		p, why, _ := plan.Read(s)
		if why != api.OK {
			continue
		}
		if cols, why, _ := check.Out(p, l); why == api.OK {
			return s, cols
		}
	}
}

func (m maker) some(l []check.Def, deep int) string {
	if deep == 0 || m.Intn(8) == 0 {
		return "(table " + pick(m, l).Name + ")"
	}
	kid, cols := m.plan(l, deep-1)
	switch m.Intn(6) {
	case 0:
		return fmt.Sprintf("(filter %s %s)", m.expr(cols, api.Int, 2), kid)
	case 1:
		return fmt.Sprintf("(project %s %s)", m.projected(cols), kid)
	case 2:
		other, more := m.plan(l, deep-1)
		var left, right []string
		for range 1 + m.Intn(2) {
			name := m.column(cols, 0)
			i, _ := row.Find(cols, name)
			left, right = append(left, name), append(right, m.column(more, cols[i].Kind))
		}
		return fmt.Sprintf("(join (%s) (%s) %s %s)", strings.Join(left, " "), strings.Join(right, " "), kid, other)
	case 3:
		other, more := m.plan(l, deep-1)
		if m.Intn(4) == 0 {
			return fmt.Sprintf("(union %s %s)", kid, kid)
		}
		var exprs []string
		for i, c := range cols {
			exprs = append(exprs, fmt.Sprintf("(%c %s)", 'a'+i, m.expr(more, c.Kind, 1)))
		}
		return fmt.Sprintf("(union %s (project %s %s))", kid, strings.Join(exprs, " "), other)
	case 4:
		return fmt.Sprintf("(distinct %s)", kid)
	}
	return fmt.Sprintf("(group (%s) %s %s)", m.left(cols), m.aggs(cols), kid)
}

func (m maker) projected(cols []api.Col) string {
	var l []string
	for range 1 + m.Intn(3) {
		l = append(l, fmt.Sprintf("(%s %s)", m.name(), m.expr(cols, 1+m.Intn(2), 2)))
	}
	return strings.Join(l, " ")
}

func (m maker) left(cols []api.Col) string {
	var l []string
	for range m.Intn(3) {
		l = append(l, m.column(cols, 0))
	}
	return strings.Join(l, " ")
}

func (m maker) aggs(cols []api.Col) string {
	var l []string
	for range m.Intn(4) {
		switch m.Intn(4) {
		case 0:
			l = append(l, fmt.Sprintf("(%s count)", m.name()))
		case 1:
			l = append(l, fmt.Sprintf("(%s min %s)", m.name(), m.column(cols, 0)))
		case 2:
			l = append(l, fmt.Sprintf("(%s max %s)", m.name(), m.column(cols, 0)))
		case 3:
			if name := m.column(cols, api.Int); name != "" {
				l = append(l, fmt.Sprintf("(%s sum %s)", m.name(), name))
			}
		}
	}
	return strings.Join(l, " ")
}

// come returns items of rows of a table, some of which may be there already.
func (m maker) come(cols []api.Col) []api.Item {
	var l []api.Item
	for range m.Intn(4) {
		var r api.Row
		for _, c := range cols {
			r = append(r, m.value(c.Kind))
		}
		net := pick(m, []int64{1, 1, 1, 1, 1, 2, 3, 20})
		if m.Intn(60) == 0 {
			net = pick(m, []int64{-1, 300, 512, 513, far})
		}
		l = append(l, api.Item{Row: r, T: tally(net)})
	}
	return l
}

// gone returns items of which each takes a row that is there, once or as often as it is there, and now and then more often.
func (m maker) gone(s api.Set) []api.Item {
	var l []api.Item
	least := m.Intn(4)
	for _, x := range s {
		if m.Intn(4) >= least {
			continue
		}
		net := int64(real(x.T))
		if m.Intn(2) == 0 {
			net = 1
		}
		if m.Intn(300) == 0 {
			net++
		}
		l = append(l, api.Item{Row: x.Row, T: tally(-net)})
	}
	return l
}

// spoil returns s with a fault, or mostly with none.
func (m maker) spoil(s api.Set) api.Set {
	if len(s) == 0 || m.Intn(50) > 0 {
		return s
	}
	s = slices.Clone(s)
	at := m.Intn(len(s))
	switch m.Intn(5) {
	case 0:
		return append(s, s[at])
	case 1:
		s[at].T = 0
	case 2:
		s[at].T += complex(1, 1)
	case 3:
		s[at].Row = append(slices.Clone(s[at].Row), num(1))
	case 4:
		s[at].Row = api.Row{s[at].Row[0], num(1), str("x")}
	}
	return s
}

// deltas returns changes of some tables: rows come, go, or both.
func (m maker) deltas(v *view) []flow.Delta {
	var l []flow.Delta
	for range m.Intn(4) {
		t := pick(m, v.slow.tables)
		var all []api.Item
		if m.Intn(3) > 0 {
			all = append(all, m.come(t.Cols)...)
		}
		if m.Intn(3) > 0 {
			all = append(all, m.gone(t.Rows)...)
		}
		s, _ := zset.Make(all)
		name := t.Name
		if m.Intn(20) == 0 {
			name = pick(m, []string{"", "none", "s", "t", "u"})
		}
		l = append(l, flow.Delta{Name: name, Rows: m.spoil(s)})
	}
	return l
}

// TestP144Slow holds flows of many plans to eval.Eval behind each of many Steps.
func TestP144Slow(t *testing.T) {
	seen := map[string]int{}
	for seed := range int64(24) {
		m := maker{rand.New(rand.NewSource(seed)), seed%2 == 1}
		for range 60 {
			l := []check.Def{m.def("s"), m.def("t"), m.def("u")}
			s, _ := m.plan(l, 1+m.Intn(4))
			v := begin(t, s, l)
			for n := range 16 {
				before := show(v.flow.Rows())
				turned, why := v.take(m.deltas(v))
				outcome := showErr(why)
				if why == api.OK && before != "" && slices.ContainsFunc(turned, func(x api.Item) bool { return imag(x.T) > 0 }) {
					outcome = "OK, and rows went"
				}
				seen[outcome]++
				if n%5 == 4 {
					v = v.loaded()
				}
			}
			alongside(t, m, v)
		}
	}
	for _, outcome := range []string{"OK", "OK, and rows went", "ErrArg", "ErrRange", "ErrOver", "ErrLong", "ErrFull"} {
		if seen[outcome] < 100 {
			t.Errorf("outcome %q came up %d times only", outcome, seen[outcome])
		}
		delete(seen, outcome)
	}
	if len(seen) > 0 {
		t.Errorf("outcomes that cannot be: %v", seen)
	}
}

// alongside goes on from a view in several ways to the same tables: in one Step, one by one, and in another order, as far as no part of it is refused.
func alongside(t *testing.T, m maker, v *view) {
	t.Helper()
	var l []flow.Delta
	for range 3 {
		l = append(l, m.deltas(v)...)
	}
	whole := v.loaded()
	sum, why := whole.take(l)
	if why != api.OK {
		return
	}
	for range 2 {
		x := v.loaded()
		var parts api.Set
		for _, d := range l {
			turned, why := x.take([]flow.Delta{d})
			if why != api.OK {
				return
			}
			parts, _ = zset.Add(parts, turned)
		}
		if show(parts) != show(sum) || show(x.flow.Rows()) != show(whole.flow.Rows()) || string(x.flow.Save()) != string(whole.flow.Save()) {
			t.Fatalf("P14.4: %s: Steps of %s: %s, but at once %s", v.text, tellAll(l), show(parts), show(sum))
		}
		m.Shuffle(len(l), func(i, k int) { l[i], l[k] = l[k], l[i] })
	}
}

// TestP144Turns lets tables of few rows come, change and go for long, for plans of each form.
func TestP144Turns(t *testing.T) {
	for i, s := range forms {
		m := maker{rand.New(rand.NewSource(int64(i))), false}
		v := start(t, s, common)
		for n := range 150 {
			v.take(m.deltas(v))
			if n%30 == 29 {
				v = v.loaded()
			}
		}
		var all []flow.Delta
		for _, x := range v.slow.tables {
			all = append(all, flow.Delta{Name: x.Name, Rows: zset.Flip(x.Rows)})
		}
		if _, why := v.take(all); why != api.OK {
			t.Errorf("P14.2: %s: all rows go: %s", s, showErr(why))
		}
		v.has("")
	}
}
