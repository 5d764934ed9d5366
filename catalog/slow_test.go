package catalog_test

import (
	"fmt"
	"maps"
	"math/rand"
	"slices"
	"strings"
	"testing"

	"confluence/api"
	"confluence/check"
	"confluence/plan"
	"confluence/row"
)

// slow is a catalog made by the chapter's words: it puts nothing in order but what it tells.
type slow struct {
	tables map[string][]api.Col
	views  map[string]api.Plan
}

func (s slow) taken(name string) bool {
	_, isTable := s.tables[name]
	_, isView := s.views[name]
	return isTable || isView
}

func (s slow) makeTable(name string, l []api.Col) string {
	why := row.Columns(l)
	switch {
	case !row.Name(name):
		return "ErrName"
	case s.taken(name):
		return "ErrTaken"
	case why != api.OK:
		return showErr(why)
	case len(s.tables) == 6:
		return "ErrFull"
	}
	s.tables[name] = l
	return "OK"
}

// isUsed reports whether a plan uses a table.
func isUsed(p api.Plan, table string) bool {
	return p.Kind == api.Table && p.Name == table || slices.ContainsFunc(p.Kids, func(q api.Plan) bool { return isUsed(q, table) })
}

func (s slow) users(table string) []string {
	var l []string
	for name, p := range s.views {
		if isUsed(p, table) {
			l = append(l, name)
		}
	}
	slices.Sort(l)
	return l
}

func (s slow) dropTable(name string) string {
	if _, ok := s.tables[name]; !ok {
		return "ErrName"
	}
	for _, user := range s.users(name) {
		return "ErrUsed " + user
	}
	delete(s.tables, name)
	return "OK"
}

// defs are the tables in any order.
func (s slow) defs() []check.Def {
	var l []check.Def
	for name, cols := range s.tables {
		l = append(l, check.Def{Name: name, Cols: cols})
	}
	return l
}

func (s slow) makeView(name, text string) string {
	p, why, at := plan.Read(text)
	_, errno, missed := check.Out(p, s.defs())
	switch {
	case !row.Name(name):
		return "ErrName"
	case s.taken(name):
		return "ErrTaken"
	case why != api.OK:
		return answer(why, at, "")
	case errno != api.OK:
		return answer(errno, 0, missed)
	case len(s.views) == 6:
		return "ErrFull"
	}
	s.views[name] = p
	return "OK"
}

func (s slow) dropView(name string) string {
	if _, ok := s.views[name]; !ok {
		return "ErrName"
	}
	delete(s.views, name)
	return "OK"
}

// state tells what db's state tells.
func (s slow) state() string {
	var tables, views, users []string
	for _, name := range slices.Sorted(maps.Keys(s.tables)) {
		tables = append(tables, name+": "+showCols(s.tables[name]))
		users = append(users, " "+name+fmt.Sprint(s.users(name)))
	}
	for _, name := range slices.Sorted(maps.Keys(s.views)) {
		out, _, _ := check.Out(s.views[name], s.defs())
		views = append(views, name+": "+plan.Print(s.views[name])+" "+showCols(out))
	}
	return strings.Join(tables, "; ") + " | " + strings.Join(views, "; ") + " |" + strings.Join(users, "")
}

// pick returns one of some.
func pick[T any](r *rand.Rand, l ...T) T { return l[r.Intn(len(l))] }

// someName is one of a few names, so that many are there already; now and then it is none.
func someName(r *rand.Rand) string {
	if r.Intn(30) == 0 {
		return pick(r, badNames...)
	}
	return pick(r, "a", "b", "c", "d", "e", "f", "g", "h", "aa", "ab", "ba", "z", "zz", longName)
}

func someCols(r *rand.Rand) []api.Col {
	if r.Intn(20) == 0 {
		return cols(badCols[r.Intn(len(badCols))].cols)
	}
	return cols(pick(r, "a Int, b Text", "a Int, b Text", "b Text, a Int", "a Int", "c Int, d Int", "a Text, b Int, c Int, d Int, e Int, f Int"))
}

func someText(r *rand.Rand, tables []string) string {
	switch r.Intn(20) {
	case 0:
		return badTexts[r.Intn(len(badTexts))].text
	case 1:
		return badPlans[r.Intn(len(badPlans))].text
	case 2:
		tables = []string{someName(r)}
	}
	table := func() string { return "(table " + pick(r, tables...) + ")" }
	s := table()
	for range r.Intn(4) {
		switch r.Intn(7) {
		case 0:
			s = "(filter (lt a 5)" + s + ")"
		case 1:
			s = "(project (a a) (c 5)\n" + s + ")"
		case 2:
			s = "(union " + s + " " + table() + " )"
		case 3:
			s = "(join (a) (a) " + s + "(project (a a) " + table() + "))"
		case 4:
			s = "(distinct " + s + ")"
		case 5:
			s = "(group (a) (b max a) " + s + ")"
		default:
			s = "(group () (a count) " + s + ")"
		}
	}
	return s
}

// step makes some call of both and holds what they answer against each other.
func step(r *rand.Rand, d db, s slow, told map[string]int) {
	var got, want, call string
	name := someName(r)
	switch r.Intn(12) {
	case 0, 1, 2:
		l := someCols(r)
		call, want = fmt.Sprintf("MakeTable(%q, %s)", name, showCols(l)), s.makeTable(name, l)
		got = showErr(d.catalog.MakeTable(name, l))
	case 3:
		call, want = fmt.Sprintf("DropTable(%q)", name), s.dropTable(name)
		why, user := d.catalog.DropTable(name)
		got = answer(why, 0, user)
	case 4, 5, 6, 7, 8, 9, 10:
		text := someText(r, append(slices.Sorted(maps.Keys(s.tables)), "a", "b"))
		call, want = fmt.Sprintf("MakeView(%q, %q)", name, text), s.makeView(name, text)
		got = answer(d.catalog.MakeView(name, text))
	default:
		call, want = fmt.Sprintf("DropView(%q)", name), s.dropView(name)
		got = showErr(d.catalog.DropView(name))
	}
	if got != want || d.state() != s.state() {
		d.t.Fatalf("P15.1: %s: %s, not %s; %s, not %s", call, got, want, d.state(), s.state())
	}
	if users := d.catalog.Users(name); !slices.Equal(users, s.users(name)) {
		d.t.Fatalf("P15.2: Users(%q): %v, not %v", name, users, s.users(name))
	}
	first, _, _ := strings.Cut(call, "(")
	what, _, _ := strings.Cut(got, " ")
	told[first+" "+what]++
}

func TestHeldAgainstASlowOne(t *testing.T) {
	r := rand.New(rand.NewSource(15))
	told := map[string]int{}
	for range 60 {
		d, s := start(t), slow{map[string][]api.Col{}, map[string]api.Plan{}}
		for range 150 {
			step(r, d, s, told)
			if r.Intn(20) == 0 {
				d = d.loaded()
			}
		}
	}
	for _, call := range []string{"MakeTable OK", "MakeTable ErrName", "MakeTable ErrTaken", "MakeTable ErrFull", "MakeTable ErrCount", "DropTable OK", "DropTable ErrName", "DropTable ErrUsed", "MakeView OK", "MakeView ErrName", "MakeView ErrTaken", "MakeView ErrType", "MakeView ErrForm", "MakeView ErrFull", "DropView OK", "DropView ErrName"} {
		if told[call] < 5 {
			t.Errorf("%s came %d times only: %v", call, told[call], told)
		}
	}
}
