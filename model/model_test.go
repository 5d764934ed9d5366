package model_test

import (
	"fmt"
	"slices"
	"strconv"
	"strings"
	"testing"

	"confluence/api"
	"confluence/model"
)

// greatest is the greatest seq.
const greatest = 1 << 30

// longest is as long as a text may be, longName as a name.
var longest, longName = strings.Repeat("z", api.MaxText), strings.Repeat("q", api.MaxName)

func num(n int64) api.Value { return api.Value{Kind: api.Int, N: n} }

func str(s string) api.Value { return api.Value{Kind: api.Text, S: s} }

// rowOf returns the row that a text like "1 'x'" tells: numbers and texts without blanks.
func rowOf(s string) api.Row {
	var r api.Row
	for w := range strings.FieldsSeq(s) {
		n, err := strconv.ParseInt(w, 10, 64)
		switch {
		case w[0] == '\'':
			r = append(r, str(strings.Trim(w, "'")))
		case err != nil:
			panic("no value: " + w)
		default:
			r = append(r, num(n))
		}
	}
	return r
}

// colsOf returns the columns that a text like "a Int, b Text" tells. Of a Kind that is neither, the number stands there.
func colsOf(s string) []api.Col {
	var l []api.Col
	if s == "" {
		return nil
	}
	for c := range strings.SplitSeq(s, ", ") {
		name, kind, _ := strings.Cut(c, " ")
		x := api.Col{Name: name}
		switch kind {
		case "Int":
			x.Kind = api.Int
		case "Text":
			x.Kind = api.Text
		default:
			fmt.Sscan(kind, &x.Kind)
		}
		l = append(l, x)
	}
	return l
}

// changesOf returns those that a text like "+t 1 'x'; -t 2 'y'" tells: one is added, one removed.
func changesOf(s string) []api.Change {
	var l []api.Change
	if s == "" {
		return nil
	}
	for part := range strings.SplitSeq(s, "; ") {
		name, rest, _ := strings.Cut(part, " ")
		l = append(l, api.Change{Table: name[1:], Row: rowOf(rest), Remove: name[0] == '-'})
	}
	return l
}

// entry returns the entry that a text tells, without a client and a seq: "table t: a Int", "drop t", "view v: (table t)", "unview v", "update +t 1; -t 2" or "kind 7".
func entry(s string) api.Entry {
	kind, rest, _ := strings.Cut(s, " ")
	name, of, _ := strings.Cut(rest, ": ")
	switch kind {
	case "table":
		return api.Entry{Kind: api.MakeTable, Name: name, Cols: colsOf(of)}
	case "drop":
		return api.Entry{Kind: api.DropTable, Name: rest}
	case "view":
		return api.Entry{Kind: api.MakeView, Name: name, Text: of}
	case "unview":
		return api.Entry{Kind: api.DropView, Name: rest}
	case "update":
		return api.Entry{Kind: api.Update, Changes: changesOf(rest)}
	case "kind":
		n, err := strconv.Atoi(rest)
		if err == nil {
			return api.Entry{Kind: n}
		}
	}
	panic("no entry: " + s)
}

// from returns e as the entry of a client.
func from(client, seq int, e api.Entry) api.Entry {
	e.Client, e.Seq = client, seq
	return e
}

func showRow(r api.Row) string {
	var l []string
	for _, v := range r {
		switch {
		case v.Kind == api.Int && v.S == "":
			l = append(l, fmt.Sprint(v.N))
		case v.Kind == api.Text && v.N == 0:
			l = append(l, "'"+v.S+"'")
		default:
			l = append(l, fmt.Sprintf("%#v", v))
		}
	}
	return strings.Join(l, " ")
}

// show tells a set: "1 'x' *3; 2 'y'".
func show(s api.Set) string {
	var l []string
	for _, x := range s {
		r := showRow(x.Row)
		switch {
		case x.T == 1:
		case imag(x.T) == 0 && real(x.T) > 1:
			r += fmt.Sprintf(" *%d", int64(real(x.T)))
		default:
			r += fmt.Sprintf(" *%v", x.T)
		}
		l = append(l, r)
	}
	return strings.Join(l, "; ")
}

var errs = map[api.Errno]string{
	api.OK: "OK", api.ErrArg: "ErrArg", api.ErrLong: "ErrLong", api.ErrMany: "ErrMany", api.ErrEnd: "ErrEnd", api.ErrTail: "ErrTail",
	api.ErrForm: "ErrForm", api.ErrFull: "ErrFull", api.ErrDeep: "ErrDeep", api.ErrName: "ErrName", api.ErrTaken: "ErrTaken",
	api.ErrType: "ErrType", api.ErrCount: "ErrCount", api.ErrUsed: "ErrUsed", api.ErrAbsent: "ErrAbsent", api.ErrOver: "ErrOver",
	api.ErrPast: "ErrPast",
}

// answer tells all fields of a Reply, but an At of 0 and a Name without bytes: "ErrName 3 v".
func answer(r api.Reply) string {
	s, ok := errs[r.Why]
	if !ok {
		s = fmt.Sprintf("error %d", int(r.Why))
	}
	if r.At != 0 {
		s += fmt.Sprint(" ", r.At)
	}
	if r.Name != "" {
		s += " " + r.Name
	}
	return s
}

// cut keeps what is told short.
func cut(s string) string {
	if len(s) > 300 {
		return s[:300] + ".."
	}
	return s
}

func showEntry(e api.Entry) string {
	var changes []string
	for _, x := range e.Changes {
		sign := "+"
		if x.Remove {
			sign = "-"
		}
		changes = append(changes, sign+x.Table+" "+showRow(x.Row))
	}
	return cut(fmt.Sprintf("%d/%d kind %d %s %s%v %s", e.Client, e.Seq, e.Kind, e.Name, e.Text, e.Cols, strings.Join(changes, "; ")))
}

// names are some that may be those of tables and views, and some that can't be.
var names = append(strings.Fields("a b c d e f g h s t u v w x y z ta tb tc td te tf va vb vc vd ve vf tt vv table union T t1"), "", " t", longName, longName+"q")

// rowsOf tells what Table and View answer for a name.
func rowsOf(t *testing.T, m *model.Model, name string) string {
	t.Helper()
	var l []string
	if s, ok := m.Table(name); ok {
		l = append(l, strings.TrimSuffix("table "+name+" "+show(s), " "))
	} else if len(s) > 0 {
		t.Errorf("R3: Table(%q): %s, but false", name, show(s))
	}
	if s, ok := m.View(name); ok {
		l = append(l, strings.TrimSuffix("view "+name+" "+show(s), " "))
	} else if len(s) > 0 {
		t.Errorf("R3: View(%q): %s, but false", name, show(s))
	}
	return strings.Join(l, " and ")
}

// rows tells the tables and views with their rows, and holds the names that Tables and Views answer against those of which there are rows.
func rows(t *testing.T, m *model.Model) string {
	t.Helper()
	var l []string
	for _, name := range slices.Concat(m.Tables(), m.Views()) {
		s := rowsOf(t, m, name)
		if s == "" {
			t.Errorf("P18.2: %q is a name, but nothing is there", name)
		}
		l = append(l, s)
	}
	for _, name := range names {
		if s := rowsOf(t, m, name); s != "" && !slices.Contains(l, s) {
			t.Errorf("P18.2: %s is there, but its name is not told", s)
		}
	}
	return strings.Join(l, " | ")
}

// state tells all that the queries answer.
func state(t *testing.T, m *model.Model) string {
	t.Helper()
	var l []string
	for client := range api.MaxClients {
		if n := m.Last(client); n != 0 {
			l = append(l, fmt.Sprint(client, ":", n))
		}
	}
	return strings.Join(m.Tables(), " ") + " / " + strings.Join(m.Views(), " ") + " / " + rows(t, m) + " / " + strings.Join(l, " ")
}

// db is a model under test.
type db struct {
	t     *testing.T
	model *model.Model
}

// start returns a new database on which these entries of client 0 have been done.
func start(t *testing.T, entries ...string) db {
	t.Helper()
	m := model.New()
	if m == nil {
		t.Fatal("P18.1: New returns nil")
	}
	d := db{t, m}
	for _, s := range entries {
		d.do(s, "OK")
	}
	return d
}

// send does an entry of a client and holds the Reply to a text.
func (d db) send(client, seq int, s, want string) {
	d.t.Helper()
	if got := answer(d.model.Do(from(client, seq, entry(s)))); got != want {
		d.t.Errorf("P18.1: %s: %s, want %s", cut(s), cut(got), cut(want))
	}
}

// do does the next entry of client 0. Of an entry with an error it holds that nothing but the Seq of the client has changed.
func (d db) do(s, want string) {
	d.t.Helper()
	was, before := d.model.Copy(), rows(d.t, d.model)
	seq := d.model.Last(0) + 1
	d.send(0, seq, s, want)
	if n := d.model.Last(0); n != seq {
		d.t.Errorf("P18.1: %s: Last is %d, not %d", cut(s), n, seq)
	}
	if want == "OK" {
		return
	}
	if now := rows(d.t, d.model); now != before {
		d.t.Errorf("R3: %s: %s, though nothing may change: %s", cut(s), cut(now), cut(before))
	}
	if !equalButSeqs(d.model, was) {
		d.t.Errorf("R3: %s: the database is another one", cut(s))
	}
}

// equalButSeqs reports whether copies of two models are the same as soon as client 0 has done one more entry, which changes neither.
func equalButSeqs(a, b *model.Model) bool {
	a, b = a.Copy(), b.Copy()
	seq := max(a.Last(0), b.Last(0)) + 1
	a.Do(api.Entry{Client: 0, Seq: seq})
	b.Do(api.Entry{Client: 0, Seq: seq})
	return a.Same(b)
}

// has holds the tables and views, with their rows, to a text.
func (d db) has(want string) {
	d.t.Helper()
	if got := rows(d.t, d.model); got != want {
		d.t.Errorf("P18.2: %s, want %s", cut(got), cut(want))
	}
}

// TestP181Examples goes through the chapter's table.
func TestP181Examples(t *testing.T) {
	d := start(t)
	d.send(0, 1, "table t: a Int", "OK")
	d.send(0, 2, "update +t 1", "OK")
	d.send(0, 3, "view v: (table t)", "OK")
	d.has("table t 1 | view v 1")
	if s, ok := d.model.View("v"); !ok || len(s) != 1 || s[0].T != 1 {
		t.Errorf("P18.2: View(v): %s", show(s))
	}
	was := d.model.Copy()
	d.send(0, 3, "view v: (table t)", "OK")
	if !d.model.Same(was) {
		t.Error("P18.1: the same Seq again has changed the database")
	}
	d.send(0, 4, "view v: (table t)", "ErrTaken")
	d.send(0, 4, "drop x", "ErrTaken")
	if d.model.Last(0) != 4 {
		t.Error("P18.1: the Seq of an entry with an error is not used")
	}
	d.send(0, 5, "view w: (group () (s sum a) (table t))", "OK")
	d.send(0, 6, "update +t 5; +t 9223372036854775807", "ErrOver w")
	d.has("table t 1 | view v 1 | view w 1")
}

func TestP181New(t *testing.T) {
	d := start(t)
	d.has("")
	if got := state(t, d.model); got != " /  /  / " {
		t.Errorf("P18.1: a new database is not empty: %s", got)
	}
	start(t, "table t: a Int", "update +t 1", "view v: (table t)")
	d.has("")
	if other := start(t); !other.model.Same(d.model) || other.model == d.model {
		t.Error("P18.1: two new databases are not alike, or one")
	}
}

// good are entries that are done one after the other, with the tables and views behind each.
var good = []struct{ entry, want string }{
	{"table t: a Int, b Text", "table t"},
	{"table u: c Int", "table t | table u"},
	{"table s: t Text", "table s | table t | table u"},
	{"view v: (table t)", "table s | table t | table u | view v"},
	{"update +t 1 'x'", "table s | table t 1 'x' | table u | view v 1 'x'"},
	{"update +t 1 'x'; +t 0 'y'; +u 5; +u 5", "table s | table t 0 'y'; 1 'x' *2 | table u 5 *2 | view v 0 'y'; 1 'x' *2"},
	{"view g: (group (b) (n count) (table t))", "table s | table t 0 'y'; 1 'x' *2 | table u 5 *2 | view g 'x' 2; 'y' 1 | view v 0 'y'; 1 'x' *2"},
	{"update -t 1 'x'; -u 5; +s 'z'", "table s 'z' | table t 0 'y'; 1 'x' | table u 5 | view g 'x' 1; 'y' 1 | view v 0 'y'; 1 'x'"},
	{"update -t 0 'y'; +t 0 'y'", "table s 'z' | table t 0 'y'; 1 'x' | table u 5 | view g 'x' 1; 'y' 1 | view v 0 'y'; 1 'x'"},
	{"drop u", "table s 'z' | table t 0 'y'; 1 'x' | view g 'x' 1; 'y' 1 | view v 0 'y'; 1 'x'"},
	{"update -t 0 'y'", "table s 'z' | table t 1 'x' | view g 'x' 1 | view v 1 'x'"},
	{"unview v", "table s 'z' | table t 1 'x' | view g 'x' 1"},
	{"table v: a Int", "table s 'z' | table t 1 'x' | table v | view g 'x' 1"},
	{"table u: x Text", "table s 'z' | table t 1 'x' | table u | table v | view g 'x' 1"},
	{"update +u 'b'; +v 7; +u 'a'", "table s 'z' | table t 1 'x' | table u 'a'; 'b' | table v 7 | view g 'x' 1"},
	{"view w: (union (table u) (project (x b) (table t)))", "table s 'z' | table t 1 'x' | table u 'a'; 'b' | table v 7 | view g 'x' 1 | view w 'a'; 'b'; 'x'"},
	{"update -t 1 'x'", "table s 'z' | table t | table u 'a'; 'b' | table v 7 | view g | view w 'a'; 'b'"},
	{"unview g", "table s 'z' | table t | table u 'a'; 'b' | table v 7 | view w 'a'; 'b'"},
	{"unview w", "table s 'z' | table t | table u 'a'; 'b' | table v 7"},
	{"drop s", "table t | table u 'a'; 'b' | table v 7"},
	{"drop v", "table t | table u 'a'; 'b'"},
	{"drop t", "table u 'a'; 'b'"},
	{"drop u", ""},
	{"table u: x Text", "table u"},
}

func TestP181Good(t *testing.T) {
	d := start(t)
	for _, x := range good {
		d.do(x.entry, "OK")
		d.has(x.want)
	}
}

// TestP181Limits has the longest names and texts, as many tables, views and columns as may be, the least and greatest values, and as many changes as a batch may have.
func TestP181Limits(t *testing.T) {
	d := start(t, "table "+longName+": a Int, b Text, c Int, d Text, e Int, f Text")
	d.do("update +"+longName+" -9223372036854775808 '"+longest+"' 9223372036854775807 '' 0 'x'", "OK")
	d.do("view v: (project (a a) (d d) (table "+longName+"))", "OK")
	for _, name := range strings.Fields("ta tb tc td te") {
		d.do("table "+name+": a Int", "OK")
	}
	for _, name := range strings.Fields("va vb vc vd ve") {
		d.do("view "+name+": (project (x b) (y a) (table "+longName+"))", "OK")
	}
	d.do("update +ta 1; +tb 2; +tc 3; +td 4; +te 5; -"+longName+" -9223372036854775808 '"+longest+"' 9223372036854775807 '' 0 'x'; +ta 6; +"+longName+" 1 '' 0 '' 0 ''", "OK")
	d.has("table " + longName + " 1 '' 0 '' 0 '' | table ta 1; 6 | table tb 2 | table tc 3 | table td 4 | table te 5 | view v 1 '' | view va '' 1 | view vb '' 1 | view vc '' 1 | view vd '' 1 | view ve '' 1")
	d.do("table tf: a Int", "ErrFull")
	d.do("view vf: (table ta)", "ErrFull")
}

// TestP181OtherFields has those that a Kind does not use be of no account.
func TestP181OtherFields(t *testing.T) {
	d := start(t)
	for i, e := range []api.Entry{
		{Kind: api.MakeTable, Name: "t", Cols: colsOf("a Int"), Text: "(table x)", Changes: changesOf("+x 1")},
		{Kind: api.MakeView, Name: "v", Text: "(table t)", Cols: colsOf("T 7"), Changes: changesOf("+t 1")},
		{Kind: api.Update, Name: "T", Text: "?", Cols: colsOf("T 7"), Changes: changesOf("+t 5")},
		{Kind: api.DropView, Name: "v", Text: "?", Cols: colsOf("T 7"), Changes: changesOf("+t 1")},
		{Kind: api.DropTable, Name: "t", Text: "?", Cols: colsOf("T 7"), Changes: changesOf("+t 1")},
	} {
		if r := d.model.Do(from(4, 1+i, e)); r != (api.Reply{}) {
			t.Errorf("P18.1: kind %d: %s", e.Kind, answer(r))
		}
		d.has([]string{"table t", "table t | view v", "table t 5 | view v 5", "table t 5", ""}[i])
	}
}

// TestP181DroppedTables come again without rows, and with the columns that they are made with.
func TestP181DroppedTables(t *testing.T) {
	d := start(t, "table t: a Int", "table u: a Int", "update +t 1; +t 1; +u 2", "drop t")
	d.has("table u 2")
	d.do("table t: a Int", "OK")
	d.has("table t | table u 2")
	d.do("update -t 1", "ErrAbsent")
	d.do("update +t 3", "OK")
	d.do("drop t", "OK")
	d.do("table t: b Text, c Int", "OK")
	d.do("update +t 3", "ErrType")
	d.do("update +t 'x' 3", "OK")
	d.has("table t 'x' 3 | table u 2")
	d.do("table a: a Int", "OK")
	d.do("table z: a Int", "OK")
	d.has("table a | table t 'x' 3 | table u 2 | table z")
	d.do("update +a 1; +z 2", "OK")
	d.do("drop t", "OK")
	d.has("table a 1 | table u 2 | table z 2")
	d.do("drop a", "OK")
	d.has("table u 2 | table z 2")
	d.do("drop z", "OK")
	d.has("table u 2")
}

// TestP181DroppedViews come again with another plan, and are then evaluated by it.
func TestP181DroppedViews(t *testing.T) {
	d := start(t, "table t: a Int", "update +t 1; +t 1; +t 2", "view v: (table t)", "view w: (distinct (table t))", "unview v")
	d.has("table t 1 *2; 2 | view w 1; 2")
	d.do("view v: (group () (n count) (table t))", "OK")
	d.has("table t 1 *2; 2 | view v 3 | view w 1; 2")
	d.do("update -t 1", "OK")
	d.has("table t 1; 2 | view v 2 | view w 1; 2")
	// A view that is dropped has no say in what is refused.
	d.do("view x: (filter (add a 9223372036854775805) (table t))", "OK")
	d.do("update +t 3", "ErrOver x")
	d.do("unview x", "OK")
	d.do("update +t 3", "OK")
	d.has("table t 1; 2; 3 | view v 3 | view w 1; 2; 3")
}
