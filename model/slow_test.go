package model_test

import (
	"fmt"
	"maps"
	"math/rand"
	"slices"
	"strings"
	"testing"

	"confluence/api"
	"confluence/check"
	"confluence/eval"
	"confluence/model"
	"confluence/plan"
	"confluence/row"
	"confluence/zset"
)

// slow is a database by the chapters' words: each row of a table stands in it as often as it is contained, and a view is its text.
type slow struct {
	cols    map[string][]api.Col
	rows    map[string][]string
	views   map[string]string
	last    map[int]int
	replies map[int]string
}

func newSlow() *slow {
	return &slow{map[string][]api.Col{}, map[string][]string{}, map[string]string{}, map[int]int{}, map[int]string{}}
}

// twin returns a copy of s.
func (s *slow) twin() *slow {
	rows := map[string][]string{}
	for name, l := range s.rows {
		rows[name] = slices.Clone(l)
	}
	return &slow{maps.Clone(s.cols), rows, maps.Clone(s.views), maps.Clone(s.last), maps.Clone(s.replies)}
}

// equal reports whether two are the same.
func (s *slow) equal(o *slow) bool {
	return maps.EqualFunc(s.cols, o.cols, slices.Equal[[]api.Col]) && maps.Equal(s.views, o.views) && maps.Equal(s.last, o.last) && maps.Equal(s.replies, o.replies) &&
		maps.EqualFunc(s.rows, o.rows, func(a, b []string) bool {
			return slices.Equal(slices.Sorted(slices.Values(a)), slices.Sorted(slices.Values(b)))
		})
}

// do tells the Reply to an entry.
func (s *slow) do(e api.Entry) string {
	switch {
	case e.Client < 0 || e.Client > 15 || e.Seq < 1 || e.Seq > 1<<30:
		return "ErrArg"
	case e.Seq == s.last[e.Client]:
		return s.replies[e.Client]
	case e.Seq < s.last[e.Client]:
		return "ErrPast"
	}
	r := s.fresh(e)
	s.last[e.Client], s.replies[e.Client] = e.Seq, r
	return r
}

func (s *slow) fresh(e api.Entry) string {
	switch e.Kind {
	case 1:
		return s.makeTable(e.Name, e.Cols)
	case 2:
		return s.dropTable(e.Name)
	case 3:
		return s.makeView(e.Name, e.Text)
	case 4:
		if _, ok := s.views[e.Name]; !ok {
			return "ErrName"
		}
		delete(s.views, e.Name)
		return "OK"
	case 5:
		return s.update(e.Changes)
	}
	return "ErrForm"
}

// named tells why nothing new can have a name.
func (s *slow) named(name string) string {
	_, isTable := s.cols[name]
	_, isView := s.views[name]
	switch {
	case !row.Name(name):
		return "ErrName"
	case isTable || isView:
		return "ErrTaken"
	}
	return ""
}

func (s *slow) makeTable(name string, cols []api.Col) string {
	if why := s.named(name); why != "" {
		return why
	}
	if why := row.Columns(cols); why != api.OK {
		return errs[why]
	}
	if len(s.cols) == 6 {
		return "ErrFull"
	}
	s.cols[name], s.rows[name] = cols, nil
	return "OK"
}

// usedBy returns the views that use a table, in order.
func (s *slow) usedBy(name string) []string {
	var l []string
	for _, v := range slices.Sorted(maps.Keys(s.views)) {
		if strings.Contains(s.views[v], "(table "+name+")") {
			l = append(l, v)
		}
	}
	return l
}

func (s *slow) dropTable(name string) string {
	if _, ok := s.cols[name]; !ok {
		return "ErrName"
	}
	if users := s.usedBy(name); len(users) > 0 {
		return "ErrUsed " + users[0]
	}
	delete(s.cols, name)
	delete(s.rows, name)
	return "OK"
}

// tables returns what eval takes, in any order.
func (s *slow) tables() []eval.Table {
	var l []eval.Table
	for name, cols := range s.cols {
		var items []api.Item
		for _, r := range s.rows[name] {
			items = append(items, api.Item{Row: rowOf(r), T: 1})
		}
		rows, _ := zset.Make(items)
		l = append(l, eval.Table{Name: name, Cols: cols, Rows: rows})
	}
	return l
}

// result returns the rows of a plan's text.
func (s *slow) result(text string) (api.Set, api.Errno) {
	p, _, _ := plan.Read(text)
	return eval.Eval(p, s.tables())
}

func (s *slow) makeView(name, text string) string {
	if why := s.named(name); why != "" {
		return why
	}
	p, why, at := plan.Read(text)
	if why != api.OK {
		return answer(api.Reply{Why: why, At: at})
	}
	var defs []check.Def
	for name, cols := range s.cols {
		defs = append(defs, check.Def{Name: name, Cols: cols})
	}
	if _, why, about := check.Out(p, defs); why != api.OK {
		return answer(api.Reply{Why: why, Name: about})
	}
	if len(s.views) == 6 {
		return "ErrFull"
	}
	if _, why := s.result(text); why != api.OK {
		return errs[why] + " " + name
	}
	s.views[name] = plan.Print(p)
	return "OK"
}

// change tells why a change can't be, or does it.
func (s *slow) change(x api.Change) string {
	cols, ok := s.cols[x.Table]
	if !ok {
		return "ErrName"
	}
	r, l := showRow(x.Row), s.rows[x.Table]
	at := slices.Index(l, r)
	switch {
	case !row.Fits(cols, x.Row):
		return "ErrType"
	case x.Remove && at < 0:
		return "ErrAbsent"
	case x.Remove:
		s.rows[x.Table] = slices.Delete(l, at, at+1)
	case len(l) == 64:
		return "ErrFull"
	default:
		s.rows[x.Table] = append(l, r)
	}
	return ""
}

func (s *slow) update(c []api.Change) string {
	if len(c) > 8 {
		return "ErrMany"
	}
	if len(c) == 0 {
		return "ErrArg"
	}
	after := s.twin()
	for i, x := range c {
		if why := after.change(x); why != "" {
			return strings.TrimSuffix(fmt.Sprint(why, " ", i), " 0")
		}
	}
	// That of a view whose tables have not changed can't fail, so all are evaluated.
	for _, v := range slices.Sorted(maps.Keys(after.views)) {
		if _, why := after.result(after.views[v]); why != api.OK {
			return errs[why] + " " + v
		}
	}
	s.rows = after.rows
	return "OK"
}

// state tells what the queries have to answer, as state does of a model.
func (s *slow) state() string {
	tables, views := slices.Sorted(maps.Keys(s.cols)), slices.Sorted(maps.Keys(s.views))
	var l, clients []string
	all := s.tables()
	for _, name := range tables {
		i := slices.IndexFunc(all, func(x eval.Table) bool { return x.Name == name })
		l = append(l, strings.TrimSuffix("table "+name+" "+show(all[i].Rows), " "))
	}
	for _, name := range views {
		rows, _ := s.result(s.views[name])
		l = append(l, strings.TrimSuffix("view "+name+" "+show(rows), " "))
	}
	for client := range 16 {
		if s.last[client] > 0 {
			clients = append(clients, fmt.Sprint(client, ":", s.last[client]))
		}
	}
	return strings.Join(tables, " ") + " / " + strings.Join(views, " ") + " / " + strings.Join(l, " | ") + " / " + strings.Join(clients, " ")
}

// maker makes entries at random.
type maker struct {
	*rand.Rand
	slow *slow
}

func pick[T any](m maker, l ...T) T { return l[m.Intn(len(l))] }

// now and then: once in n.
func (m maker) once(n int) bool { return m.Intn(n) == 0 }

// known returns the name of a table that is there, mostly.
func (m maker) known() string {
	l := slices.Sorted(maps.Keys(m.slow.cols))
	if len(l) == 0 || m.once(40) {
		return m.name()
	}
	return pick(m, l...)
}

func (m maker) name() string { return pick(m, "a", "b", "c", "d", "e", "f", "g", "h", "s", "t") }

func (m maker) value(kind int) api.Value {
	switch {
	case kind == api.Text && m.once(20):
		return str("abcdefghijklmnopqrstuvw")
	case kind == api.Text:
		return str(pick(m, "", "x", "y", "xy"))
	case m.once(20):
		return num(pick[int64](m, 1<<63-1, -1<<63, 1<<62, -1<<62, 1<<32))
	}
	return num(int64(m.Intn(4)) - 1)
}

func (m maker) cols() []api.Col {
	var l []api.Col
	for range 1 + m.Intn(3) {
		l = append(l, api.Col{Name: m.name(), Kind: 1 + m.Intn(2)})
	}
	switch {
	case m.once(15):
		return nil
	case m.once(15):
		l[0].Kind = 3
	case m.once(15):
		l[0].Name = "sum"
	case m.once(15):
		return append(l, l[0])
	}
	return l
}

// column returns the name of a column of a table, of this Kind if it has one.
func (m maker) column(table string, kind int) string {
	cols := m.slow.cols[table]
	for range 10 {
		if len(cols) > 0 {
			if c := pick(m, cols...); kind == 0 || c.Kind == kind {
				return c.Name
			}
		}
	}
	return m.name()
}

// plan returns the text of a plan of tables that are there, which may be wrong.
func (m maker) plan() string {
	t := m.known()
	number := fmt.Sprint(pick[int64](m, 0, 1, 9223372036854775806, -9223372036854775807, 1<<62, 2))
	switch m.Intn(12) {
	case 0:
		return "(filter (" + pick(m, "add", "sub", "mul", "lt", "eq") + " " + m.column(t, api.Int) + " " + number + ") (table " + t + "))"
	case 1:
		return "(project (a " + m.column(t, 0) + ") (b (" + pick(m, "add", "sub", "mul") + " " + m.column(t, api.Int) + " " + number + ")) (table " + t + "))"
	case 2:
		return "(project (a (cat " + m.column(t, api.Text) + " " + m.column(t, api.Text) + ")) (table " + t + "))"
	case 3:
		u, kind := m.known(), 1+m.Intn(2)
		return "(join (x) (x) (project (x " + m.column(t, kind) + ") (table " + t + ")) (project (x " + m.column(u, kind) + ") (y " + m.column(u, 0) + ") (table " + u + ")))"
	case 4:
		u, kind := m.known(), 1+m.Intn(2)
		return "(union (project (x " + m.column(t, kind) + ") (table " + t + ")) (project (y " + m.column(u, kind) + ") (table " + u + ")))"
	case 5:
		return "(distinct (project (x " + m.column(t, 0) + ") (table " + t + ")))"
	case 6:
		return "(group (" + pick(m, "", m.column(t, 0)) + ") (n sum " + m.column(t, api.Int) + ") (m count) (table " + t + "))"
	case 7:
		return "(group (" + pick(m, "", m.column(t, 0)) + ") (n min " + m.column(t, 0) + ") (m max " + m.column(t, 0) + ") (table " + t + "))"
	case 8:
		return squaredOf("(project (x "+m.column(t, 0)+") (table "+t+"))", 1+m.Intn(2))
	case 9:
		s := "(distinct (table " + t + "))"
		return s[:m.Intn(len(s))] + pick(m, "", "?", "()", "table", "9") + s[m.Intn(len(s)):]
	}
	return "(table " + t + ")"
}

// squaredOf returns a plan that joins a plan of one column x with itself n times.
func squaredOf(s string, n int) string {
	for range n {
		s = "(join (x) (x) " + s + " " + s + ")"
	}
	return s
}

func (m maker) changes() []api.Change {
	var c []api.Change
	for range 1 + m.Intn(8) {
		t := m.known()
		x := api.Change{Table: t, Remove: m.once(3)}
		for _, col := range m.slow.cols[t] {
			x.Row = append(x.Row, m.value(col.Kind))
		}
		if l := m.slow.rows[t]; x.Remove && len(l) > 0 && !m.once(20) {
			x.Row = rowOf(pick(m, l...))
		}
		if m.once(60) {
			x.Row = append(x.Row, m.value(1))
		}
		c = append(c, x)
	}
	if m.once(40) {
		return c[:0]
	}
	if m.once(40) {
		return slices.Concat(c, c, c)
	}
	return c
}

// view returns the name of a view that is there, mostly.
func (m maker) view() string {
	l := slices.Sorted(maps.Keys(m.slow.views))
	if len(l) == 0 || m.once(4) {
		return m.name()
	}
	return pick(m, l...)
}

// entry returns one of a client, mostly a fresh one.
func (m maker) entry() api.Entry {
	e := api.Entry{Client: m.Intn(16)}
	e.Seq = m.slow.last[e.Client] + pick(m, 1, 1, 1, 1, 1, 1, 1, 1, 1, 1, 2, 5, 0, 0, -1)
	if m.once(50) {
		e.Client, e.Seq = pick(m, -1, 16, 3, 4), pick(m, -1, 0, 1<<30+1, 1)
	}
	switch m.Intn(20) {
	case 0, 1, 2:
		e.Kind, e.Name, e.Cols = api.MakeTable, m.name(), m.cols()
	case 3:
		e.Kind, e.Name = api.DropTable, m.known()
	case 4, 5, 6, 7, 8:
		e.Kind, e.Name, e.Text = api.MakeView, m.name(), m.plan()
	case 9, 10:
		e.Kind, e.Name = api.DropView, m.view()
	default:
		e.Kind, e.Changes = api.Update, m.changes()
	}
	if m.once(50) {
		e.Kind = m.Intn(9) - 2
	}
	return e
}

// TestP181Slow holds a model, one that is copied time and again, and one that gets the same entries against the slow one, for many entries.
func TestP181Slow(t *testing.T) {
	seen := map[string]int{}
	for seed := range int64(25) {
		s := newSlow()
		m := maker{rand.New(rand.NewSource(seed)), s}
		a, b := model.New(), model.New()
		for n := range 250 {
			e := m.entry()
			want := s.do(e)
			if got := answer(a.Do(e)); got != want {
				t.Fatalf("P18.1: %s: %s, want %s; %s", showEntry(e), got, want, s.state())
			}
			if got := answer(b.Do(e)); got != want {
				t.Fatalf("P18.3: %s: %s, want %s; %s", showEntry(e), got, want, s.state())
			}
			why, _, _ := strings.Cut(want, " ")
			seen[fmt.Sprint(e.Kind, " ", why)]++
			if n%5 > 0 {
				continue
			}
			if got := state(t, a); got != s.state() {
				t.Fatalf("P18.2: behind %s: %s, want %s", showEntry(e), got, s.state())
			}
			if !a.Same(b) {
				t.Fatalf("P18.3: behind %s not the same: %s", showEntry(e), s.state())
			}
			b = b.Copy()
		}
	}
	for _, s := range []string{"1 OK", "1 ErrTaken", "1 ErrFull", "1 ErrCount", "1 ErrName", "2 OK", "2 ErrName", "2 ErrUsed", "3 OK", "3 ErrTaken", "3 ErrName", "3 ErrForm", "3 ErrFull", "3 ErrOver", "3 ErrType", "3 ErrLong",
		"4 OK", "4 ErrName", "5 OK", "5 ErrName", "5 ErrType", "5 ErrAbsent", "5 ErrFull", "5 ErrMany", "5 ErrArg", "5 ErrOver", "5 ErrLong", "5 ErrPast", "0 ErrForm", "6 ErrForm", "-1 ErrForm"} {
		if seen[s] == 0 {
			t.Errorf("no entry was answered %s: %v", s, seen)
		}
	}
}

// TestP182Ways has a model and copies of it go their own ways: each stays with its slow one, and two are the same just if their slow ones are.
func TestP182Ways(t *testing.T) {
	same := 0
	for seed := range int64(10) {
		r := rand.New(rand.NewSource(100 + seed))
		models, slows := []*model.Model{model.New()}, []*slow{newSlow()}
		for range 150 {
			i := r.Intn(len(models))
			m := maker{r, slows[i]}
			if m.once(6) && len(models) < 6 {
				models, slows = append(models, models[i].Copy()), append(slows, slows[i].twin())
			}
			e := m.entry()
			if got, want := answer(models[i].Do(e)), slows[i].do(e); got != want {
				t.Fatalf("P18.1: %s: %s, want %s; %s", showEntry(e), got, want, slows[i].state())
			}
			k := r.Intn(len(models))
			if got := state(t, models[k]); got != slows[k].state() {
				t.Fatalf("P18.2: Copy %d: %s, want %s", k, got, slows[k].state())
			}
			want := slows[i].equal(slows[k])
			if models[i].Same(models[k]) != want || models[k].Same(models[i]) != want {
				t.Fatalf("P18.2: Same is not %v: %s and %s", want, slows[i].state(), slows[k].state())
			}
			if want && i != k {
				same++
			}
		}
	}
	if same == 0 {
		t.Error("no copies were the same")
	}
}
