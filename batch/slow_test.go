package batch_test

import (
	"fmt"
	"maps"
	"math/rand"
	"slices"
	"strings"
	"testing"

	"confluence/api"
	"confluence/batch"
	"confluence/check"
	"confluence/eval"
	"confluence/flow"
	"confluence/plan"
	"confluence/row"
	"confluence/zset"
)

// slow is a table by the chapter's words: how often it contains each row, by what the row is shown as.
type slow struct {
	table eval.Table
	often map[string]int
	turn  map[string]int
	named bool
}

func newSlow(t eval.Table) *slow {
	m := &slow{table: t, often: map[string]int{}, turn: map[string]int{}}
	for _, x := range t.Rows {
		m.often[showRow(x.Row)] = int(real(x.T))
	}
	return m
}

func (m *slow) total() int {
	n := 0
	for _, often := range m.often {
		n += often
	}
	return n
}

// change returns why a change of this table can't be, or what is left of it.
func (m *slow) change(x api.Change) string {
	r := showRow(x.Row)
	switch {
	case !row.Fits(m.table.Cols, x.Row):
		return "ErrType"
	case x.Remove && m.often[r] == 0:
		return "ErrAbsent"
	case !x.Remove && m.total() >= 64:
		return "ErrFull"
	case x.Remove:
		m.often[r]--
		m.turn[r]--
	default:
		m.often[r]++
		m.turn[r]++
	}
	m.named = true
	return ""
}

// rowsOf tells the rows of a map, in order.
func rowsOf(m map[string]int) string {
	var l api.Set
	for s, n := range m {
		if n != 0 {
			x := item(s)
			x.T = tally(int64(n))
			l = append(l, x)
		}
	}
	slices.SortFunc(l, func(x, y api.Item) int {
		if row.Less(x.Row, y.Row) {
			return -1
		}
		return 1
	})
	return show(l)
}

// slowly tells what Apply has to return.
func slowly(l []eval.Table, c []api.Change) string {
	if len(c) > 8 {
		return "ErrMany 0"
	}
	if len(c) == 0 {
		return "ErrArg 0"
	}
	all := map[string]*slow{}
	for _, t := range l {
		all[t.Name] = newSlow(t)
	}
	for i, x := range c {
		m, ok := all[x.Table]
		if !ok {
			return fmt.Sprint("ErrName ", i)
		}
		if why := m.change(x); why != "" {
			return fmt.Sprint(why, " ", i)
		}
	}
	var after, turned []string
	for _, t := range l {
		head := showTables([]eval.Table{{Name: t.Name, Cols: t.Cols}})
		after = append(after, strings.TrimSuffix(head+" "+rowsOf(all[t.Name].often), " "))
	}
	for _, name := range slices.Sorted(maps.Keys(all)) {
		if all[name].named {
			turned = append(turned, strings.TrimSuffix(name+": "+rowsOf(all[name].turn), " "))
		}
	}
	return strings.Join(after, " | ") + " => " + strings.Join(turned, " | ")
}

// pick returns one of some.
func pick[T any](r *rand.Rand, l ...T) T { return l[r.Intn(len(l))] }

// heads are tables without rows. Their order is not that of their names.
var heads = []string{"u(a Int)", "t(a Int, b Text)", "w(b Text)", "tt(a Int)", "a(a Int, b Int)", "z(a Text, b Int, c Text, d Int, e Int, f Int)"}

// someRow returns a row of few, so that many are there already; now and then it does not fit.
func someRow(r *rand.Rand, cols []api.Col) api.Row {
	var x api.Row
	for _, c := range cols {
		isInt := c.Kind == api.Int
		if r.Intn(150) == 0 {
			isInt = !isInt
		}
		if isInt {
			x = append(x, num(int64(r.Intn(4)-1)))
		} else {
			x = append(x, str(pick(r, "", "x", "y", "xy")))
		}
	}
	switch r.Intn(300) {
	case 0:
		x = append(x, num(1))
	case 1:
		x = x[1:]
	}
	return x
}

// someTables returns some of the heads in any order, their rows made by many calls or, now and then, nearly full.
func someTables(r *rand.Rand) []eval.Table {
	var l []eval.Table
	for _, i := range r.Perm(len(heads))[:r.Intn(len(heads))+1] {
		t := table(heads[i])
		if r.Intn(3) == 0 {
			t.Rows, _ = zset.Make([]api.Item{{Row: someFitting(r, t.Cols), T: tally(int64(58 + r.Intn(9)))}})
		}
		l = append(l, t)
	}
	return l
}

// someFitting returns a row that fits.
func someFitting(r *rand.Rand, cols []api.Col) api.Row {
	for {
		if x := someRow(r, cols); row.Fits(cols, x) {
			return x
		}
	}
}

// someChange adds or removes a row of one of the tables; now and then of none.
func someChange(r *rand.Rand, l []eval.Table) api.Change {
	t := pick(r, l...)
	x := api.Change{Table: t.Name, Row: someRow(r, t.Cols), Remove: r.Intn(2) == 0}
	// What is there is removed more often than what is not.
	if x.Remove && len(t.Rows) > 0 && r.Intn(8) > 0 {
		x.Row = slices.Clone(pick(r, t.Rows...).Row)
	}
	if r.Intn(150) == 0 {
		x.Table = pick(r, "", "q", "T", x.Table+"x")
	}
	return x
}

func someChanges(r *rand.Rand, l []eval.Table) []api.Change {
	var c []api.Change
	n := 1 + r.Intn(api.MaxChanges)
	if r.Intn(40) == 0 {
		n = pick(r, 0, 9, 10)
	}
	for range n {
		c = append(c, someChange(r, l))
	}
	return c
}

// adds holds P16.2: the tables before the call, with the Deltas added, are those afterwards.
func adds(t *testing.T, before, after []eval.Table, l []flow.Delta) {
	t.Helper()
	for i, x := range before {
		rows, why := x.Rows, api.OK
		for _, d := range l {
			if d.Name == x.Name {
				rows, why = zset.Add(rows, d.Rows)
			}
		}
		if why != api.OK || len(after) != len(before) || after[i].Name != x.Name || !slices.Equal(after[i].Cols, x.Cols) || !zset.Same(rows, after[i].Rows) {
			t.Fatalf("P16.2: %s and %s are not %s", showTables(before), showDeltas(l), showTables(after))
		}
	}
	if !eval.Right(after) {
		t.Fatalf("P16.2: %s is not valid", showTables(after))
	}
	for i, d := range l {
		if !zset.Right(d.Rows) || i > 0 && l[i-1].Name >= d.Name {
			t.Fatalf("P16.1: %s", showDeltas(l))
		}
	}
}

// TestP162Slow holds Apply against the slow one, in many calls on the tables that the calls before have left.
func TestP162Slow(t *testing.T) {
	told0 := map[string]int{}
	for seed := range 60 {
		r := rand.New(rand.NewSource(int64(seed)))
		l := someTables(r)
		for range 200 {
			c := someChanges(r, l)
			after, turned, why, at := batch.Apply(l, c)
			got, want := told(after, turned, why, at), slowly(l, c)
			if got != want {
				t.Fatalf("P16.1: %s for %s: %s, want %s", showChanges(c), showTables(l), got, want)
			}
			if why != api.OK {
				told0[want]++
				continue
			}
			told0["OK"]++
			adds(t, l, after, turned)
			l = after
		}
	}
	for _, s := range []string{"OK", "ErrArg 0", "ErrMany 0", "ErrName 0", "ErrName 3", "ErrType 0", "ErrType 3", "ErrAbsent 0", "ErrAbsent 7", "ErrFull 0", "ErrFull 7"} {
		if told0[s] == 0 {
			t.Errorf("no call answered %s: %v", s, told0)
		}
	}
}

// TestP162Flow has a flow take the Deltas: it gives what eval gives for the tables, and its rows are never fewer than none.
func TestP162Flow(t *testing.T) {
	for seed := range 20 {
		r := rand.New(rand.NewSource(int64(seed)))
		l := tables("u(a Int) | t(a Int, b Text) | w(b Text)")
		p, _, _ := plan.Read("(group (b) (n count) (s sum a) (union (project (a a) (b b) (table t)) (project (a a) (b \"x\") (table u))))")
		var defs []check.Def
		for _, x := range l {
			defs = append(defs, check.Def{Name: x.Name, Cols: x.Cols})
		}
		f, why := flow.New(p, defs)
		if why != api.OK {
			t.Fatal(showErr(why))
		}
		for range 100 {
			c := someChanges(r, l)
			after, turned, why, _ := batch.Apply(l, c)
			if why != api.OK {
				continue
			}
			if _, why := f.Step(turned); why != api.OK {
				t.Fatalf("P16.2: Step of %s: %s", showDeltas(turned), showErr(why))
			}
			l = after
			want, _ := eval.Eval(p, l)
			if !zset.Same(f.Rows(), want) {
				t.Fatalf("P16.2: %s, want %s", show(f.Rows()), show(want))
			}
		}
	}
}

// back returns the changes that take Deltas back, what is removed ahead of what is added.
func back(l []flow.Delta) []api.Change {
	var removed, added []api.Change
	for _, d := range l {
		for _, x := range d.Rows {
			for range int(real(x.T)) {
				removed = append(removed, api.Change{Table: d.Name, Row: x.Row, Remove: true})
			}
			for range int(imag(x.T)) {
				added = append(added, api.Change{Table: d.Name, Row: x.Row})
			}
		}
	}
	return append(removed, added...)
}

// hasMore reports whether a table has more rows than it takes, so that it does not take them back.
func hasMore(x eval.Table) bool {
	n, _ := zset.Total(x.Rows)
	return n > api.MaxRows
}

// TestP162Back takes back what was changed: the tables are as they were.
func TestP162Back(t *testing.T) {
	n := 0
	for seed := range 300 {
		r := rand.New(rand.NewSource(int64(seed)))
		l := slices.DeleteFunc(someTables(r), hasMore)
		if len(l) == 0 {
			continue
		}
		after, turned, why, _ := batch.Apply(l, someChanges(r, l))
		c := back(turned)
		if why != api.OK || len(c) == 0 {
			continue
		}
		n++
		was, _, why, at := batch.Apply(after, c)
		if why != api.OK || showTables(was) != showTables(l) {
			t.Fatalf("P16.2: %s %d, %s, want %s", showErr(why), at, showTables(was), showTables(l))
		}
	}
	if n < 50 {
		t.Errorf("only %d calls were taken back", n)
	}
}

// TestP161Wide has tables of many rows, which take no more but give some.
func TestP161Wide(t *testing.T) {
	l := []eval.Table{table("t(a Int)"), table("u(a Int)")}
	for i := range 50000 {
		l[0].Rows = append(l[0].Rows, api.Item{Row: api.Row{num(int64(i))}, T: 1})
	}
	after, turned, why, at := batch.Apply(l, changes("-t 49999; -t 0; +u 1; -t 25000"))
	if why != api.OK || at != 0 || len(after) != 2 || len(after[0].Rows) != 49997 || showDeltas(turned) != "t: 0 *-1; 25000 *-1; 49999 *-1 | u: 1" {
		t.Errorf("P16.1: %s %d: %s", showErr(why), at, cut(showDeltas(turned)))
	}
	adds(t, l, after, turned)
	if got := told(batch.Apply(l, changes("-t 49999; +t 1"))); got != "ErrFull 1" {
		t.Errorf("P16.1: %s", cut(got))
	}
}
