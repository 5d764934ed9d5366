package flow_test

import (
	"cmp"
	"fmt"
	"reflect"
	"slices"
	"strings"
	"testing"

	"confluence/api"
	"confluence/check"
	"confluence/flow"
)

// room returns a list with room behind it with something in it.
func room[T any](l []T, spare T) []T {
	n := len(l)
	return append(slices.Clone(l), spare, spare, spare)[:n]
}

func roomyExprs(l []api.Expr) []api.Expr {
	l = room(l, api.Expr{Kind: api.Column, S: "spare"})
	for i := range l {
		l[i].Kids = roomyExprs(l[i].Kids)
	}
	return l
}

// roomy returns a copy of p whose lists have room.
func roomy(p api.Plan) api.Plan {
	p.Exprs = roomyExprs(p.Exprs)
	p.Cols, p.Left, p.Right = room(p.Cols, "spare"), room(p.Left, "spare"), room(p.Right, "spare")
	p.Aggs = room(p.Aggs, api.Agg{Name: "spare", Fun: "sum", Col: "spare"})
	p.Kids = room(p.Kids, api.Plan{Kind: api.Table, Name: "spare"})
	for i := range p.Kids {
		p.Kids[i] = roomy(p.Kids[i])
	}
	return p
}

// roomyDefs returns a copy of l whose lists have room.
func roomyDefs(l []check.Def) []check.Def {
	l = room(l, def("spare: spare Int"))
	for i := range l {
		l[i].Cols = room(l[i].Cols, api.Col{Name: "spare", Kind: api.Text})
	}
	return l
}

// roomyDeltas returns a copy of l whose lists have room.
func roomyDeltas(l []flow.Delta) []flow.Delta {
	l = room(l, flow.Delta{Name: "t", Rows: items("12345 'spare'")})
	for i := range l {
		l[i].Rows = room(l[i].Rows, item("12345 'spare' *9"))
		for k := range l[i].Rows {
			l[i].Rows[k].Row = room(l[i].Rows[k].Row, num(54321))
		}
	}
	return l
}

// whole tells everything of some values, their lists as far as they have room.
func whole(values ...any) string {
	var b strings.Builder
	var walk func(v reflect.Value)
	walk = func(v reflect.Value) {
		switch v.Kind() {
		case reflect.Slice:
			fmt.Fprint(&b, "[", v.Len(), ":")
			v = v.Slice(0, v.Cap())
			for i := range v.Len() {
				walk(v.Index(i))
			}
			fmt.Fprint(&b, "]")
		case reflect.Struct:
			for i := range v.NumField() {
				walk(v.Field(i))
			}
		default:
			fmt.Fprintf(&b, "%v ", v)
		}
	}
	for _, v := range values {
		walk(reflect.ValueOf(v))
	}
	return b.String()
}

// span is the memory of a list, with its room.
type span struct{ from, to uintptr }

// spans returns the memory of every list in v.
func spans(v reflect.Value) []span {
	var all []span
	switch v.Kind() {
	case reflect.Struct:
		for i := range v.NumField() {
			all = append(all, spans(v.Field(i))...)
		}
	case reflect.Slice:
		if v.Cap() > 0 {
			all = append(all, span{v.Pointer(), v.Pointer() + uintptr(v.Cap())*v.Type().Elem().Size()})
		}
		for i := range v.Len() {
			all = append(all, spans(v.Index(i))...)
		}
	}
	return all
}

// apart reports whether no two lists of some values share memory.
func apart(values ...any) bool {
	var all []span
	for _, v := range values {
		all = append(all, spans(reflect.ValueOf(v))...)
	}
	slices.SortFunc(all, func(a, b span) int { return cmp.Compare(a.from, b.from) })
	for i := 1; i < len(all); i++ {
		if all[i].from < all[i-1].to {
			return false
		}
	}
	return true
}

// spoilSet overwrites all of a set, with its room.
func spoilSet(s api.Set) {
	for _, x := range s {
		r := x.Row[:cap(x.Row)]
		for k := range r {
			r[k] = str("turned")
		}
	}
	clear(s[:cap(s)])
}

func spoilExprs(l []api.Expr) {
	for _, e := range l {
		spoilExprs(e.Kids)
	}
	for i := range l {
		l[i] = api.Expr{Kind: api.Number, N: 77}
	}
}

// spoilPlan overwrites all lists of a plan.
func spoilPlan(p api.Plan) {
	for _, q := range p.Kids {
		spoilPlan(q)
	}
	spoilExprs(p.Exprs)
	for _, l := range [][]string{p.Cols, p.Left, p.Right} {
		for i := range l {
			l[i] = "turned"
		}
	}
	clear(p.Aggs)
	clear(p.Kids)
}

// first and second are steps that all forms take. Behind both, rows of every table have come, gone and stayed.
const (
	first  = "t: 1 'x' *2; 2 'y'; 4 'x' | u: 1 2; 2 1 *2; 3 3 | w: 1 *2; 3"
	second = "t: 1 'x' *-1; 2 'y' *-1; 3 'z' | u: 1 2 *-1; 1 3; 3 2 | w: 1 *-1; 2"
)

// TestR2 holds all calls to R2: what is handed in isn't turned, nor what it has room for, nor is it kept; and results are new memory.
func TestR2(t *testing.T) {
	for _, s := range forms {
		v := start(t, s, common)
		p, l := roomy(read(t, s)), roomyDefs(v.defs)
		before := whole(p, l)
		f, why := flow.New(p, l)
		if why != api.OK || whole(p, l) != before {
			t.Fatalf("New of %s turned what it was given", s)
		}
		if !apart(f.Cols(), p, l) {
			t.Errorf("R2: Cols of %s shares memory", s)
		}
		b := v.flow.Save()
		g, why := flow.Load(p, l, room(b, 1))
		if why != api.OK || whole(p, l) != before {
			t.Fatalf("Load of %s turned what it was given", s)
		}
		spoilPlan(p)
		for i := range l {
			for k := range l[i].Cols {
				l[i].Cols[k] = api.Col{Name: "turned", Kind: 3 - l[i].Cols[k].Kind}
			}
			l[i] = check.Def{}
		}
		v.flow = f
		stays(t, v)
		v = start(t, s, common)
		v.flow = g
		stays(t, v)
	}
}

// stays checks that nothing that a flow is given or gives can change it.
func stays(t *testing.T, v *view) {
	t.Helper()
	cols := fmt.Sprint(start(t, v.text, common).flow.Cols())
	for _, s := range []string{first, second, "t: 1 'x' *-9", "t: 1", "t: 1 'x' *600", "", flippedDeltas(second), second, "t: 1 'x' | u: 5 5 | t: 2 'y'; 6 '' | w: 4 | u: 1 1; 5 5 *-1 | t: 1 'x' *-1 | w: 4 *-1; 5"} {
		l := roomyDeltas(deltas(s))
		before := whole(l)
		// The view holds what Step returns against what it should, and Rows.
		got, _ := v.take(l)
		if whole(l) != before {
			t.Errorf("R2: %s: Step turned %s", v.text, s)
		}
		rows, all, saved := v.flow.Rows(), v.flow.Cols(), v.flow.Save()
		if !apart(got, rows, all, saved, l, v.flow.Rows(), v.flow.Cols(), v.flow.Save()) {
			t.Errorf("R2: %s: results of Step of %s share memory", v.text, s)
		}
		if fmt.Sprint(all) != cols {
			t.Errorf("R2: %s: Cols has become %v", v.text, all)
		}
		// What the slow view keeps of these is its own.
		v.total = items(show(v.total))
		for i := range v.slow.tables {
			v.slow.tables[i].Rows = items(show(v.slow.tables[i].Rows))
		}
		want := show(rows)
		for _, x := range l {
			spoilSet(x.Rows)
		}
		clear(l[:cap(l)])
		spoilSet(got)
		if show(rows) != want {
			t.Errorf("R2: %s: Rows shares memory", v.text)
		}
		spoilSet(rows)
		clear(all[:cap(all)])
		b := string(saved)
		clear(saved[:cap(saved)])
		if string(v.flow.Save()) != b {
			t.Errorf("R2: %s: Save shares memory, or has turned", v.text)
		}
		v.holds()
	}
}

// flippedDeltas tells Deltas with each row removed as often as it was added.
func flippedDeltas(s string) string {
	var parts []string
	for part := range strings.SplitSeq(s, " | ") {
		name, rows, _ := strings.Cut(part, ": ")
		parts = append(parts, name+": "+flipped(rows))
	}
	return strings.Join(parts, " | ")
}

// TestR2Answers has what was answered stay as it is, whatever becomes of the flow.
func TestR2Answers(t *testing.T) {
	for _, s := range forms {
		v := start(t, s, common)
		turned, _ := v.take(deltas(first))
		rows, cols, b := v.flow.Rows(), v.flow.Cols(), v.flow.Save()
		before := whole(turned, rows, cols, b)
		v.take(deltas(second))
		v.take(deltas(flippedDeltas(first)))
		v.take(deltas("t: 1 'x'; 7 '' | u: 1 1; 2 1; 7 7 *2 | w: 1; 7"))
		if whole(turned, rows, cols, b) != before {
			t.Errorf("R2: %s: what was answered has changed", s)
		}
	}
}

// TestR2OneMemory has Deltas whose rows share memory.
func TestR2OneMemory(t *testing.T) {
	rows := items("1 'x'; 2 'y' *2")
	for _, s := range forms {
		v := start(t, s, common)
		for _, l := range [][]flow.Delta{
			{{Name: "t", Rows: rows}, {Name: "t", Rows: rows}, {Name: "t", Rows: rows[:1]}},
			{{Name: "t", Rows: rows[1:]}, {Name: "t", Rows: rows}, {Name: "v", Rows: rows}},
		} {
			v.take(l)
			got, _ := v.take(l)
			if show(rows) != "1 'x'; 2 'y' *2" || !apart(got, rows, v.flow.Rows()) {
				t.Errorf("R2: %s: %s", s, show(rows))
			}
		}
	}
}

// TestR2Flows have nothing in common, be they of the same plan or made of the same bytes.
func TestR2Flows(t *testing.T) {
	for _, s := range forms {
		p, l := read(t, s), defs(common)
		f, _ := flow.New(p, l)
		f.Step(deltas(first))
		b := f.Save()
		var all []*flow.Flow
		for range 2 {
			g, _ := flow.Load(p, l, b)
			h, _ := flow.New(p, l)
			all = append(all, g, h)
		}
		before := show(f.Rows())
		for i, g := range all {
			g.Step(deltas(second))
			g.Step(deltas("t: 9 'x' | u: 9 9 | w: 9"))
			if show(f.Rows()) != before {
				t.Fatalf("R2: %s: another flow changed this one", s)
			}
			for _, h := range all[i+1:] {
				if rows := show(h.Rows()); rows != before && rows != "" {
					t.Fatalf("R2: %s: a flow changed another one: %s", s, rows)
				}
			}
		}
	}
}
