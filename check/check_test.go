package check_test

import (
	"fmt"
	"slices"
	"strings"
	"testing"

	"confluence/api"
	"confluence/check"
	"confluence/plan"
)

// words are those that are no names.
var words = strings.Fields("table filter project join union distinct group count sum min max add sub mul neg eq lt and or not cat len if")

// longName is as long as a name may be.
var longName = strings.Repeat("q", api.MaxName)

// cols returns the columns that a text like "a Int, b Text" tells.
func cols(s string) []api.Col {
	var l []api.Col
	for c := range strings.SplitSeq(s, ", ") {
		name, kind, _ := strings.Cut(c, " ")
		switch kind {
		case "Int":
			l = append(l, api.Col{Name: name, Kind: api.Int})
		case "Text":
			l = append(l, api.Col{Name: name, Kind: api.Text})
		}
	}
	return l
}

// defs returns the tables that texts like "t: a Int, b Text" tell.
func defs(texts ...string) []check.Def {
	var l []check.Def
	for _, s := range texts {
		name, rest, _ := strings.Cut(s, ": ")
		l = append(l, check.Def{Name: name, Cols: cols(rest)})
	}
	return l
}

func showCols(l []api.Col) string {
	var all []string
	for _, c := range l {
		switch c.Kind {
		case api.Int:
			all = append(all, c.Name+" Int")
		case api.Text:
			all = append(all, c.Name+" Text")
		default:
			all = append(all, fmt.Sprint(c.Name, " ", c.Kind))
		}
	}
	return strings.Join(all, ", ")
}

func showErr(why api.Errno) string {
	switch why {
	case api.OK:
		return "OK"
	case api.ErrArg:
		return "ErrArg"
	case api.ErrForm:
		return "ErrForm"
	case api.ErrName:
		return "ErrName"
	case api.ErrTaken:
		return "ErrTaken"
	case api.ErrType:
		return "ErrType"
	case api.ErrCount:
		return "ErrCount"
	}
	return fmt.Sprintf("error %d", why)
}

// out tells all that Out returns: the columns, or the error and its name. What may not stand beside them is told too.
func out(p api.Plan, l []check.Def) string {
	c, why, name := check.Out(p, l)
	s := showErr(why)
	if why == api.OK {
		s = ""
	}
	if name != "" {
		s += " " + name
	}
	if why != api.OK && c != nil {
		s += fmt.Sprint(" beside ", c)
	}
	return s + showCols(c)
}

// read returns the plan of a text, which must be one.
func read(t *testing.T, s string) api.Plan {
	t.Helper()
	p, why, at := plan.Read(s)
	if why != api.OK {
		t.Fatalf("%s is no plan: error %d at %d", s, why, at)
	}
	return p
}

// gives checks what Out of a plan returns.
func gives(t *testing.T, l []check.Def, s, want string) {
	t.Helper()
	if got := out(read(t, s), l); got != want {
		t.Errorf("Out of %s: %s, not %s", s, got, want)
	}
}

// around are pairs of what may stand before and behind a plan with an error: each of them makes a plan that has an error of its own, which must come later.
var around = [][2]string{
	{"(filter 1 ", ")"},
	{"(filter ghost ", ")"},
	{"(project (x (add 1 \"x\")) ", ")"},
	{"(project (x 1) (x 1) ", ")"},
	{"(join () (ghost) ", " (table t))"},
	{"(join (ghost) (ghost) ", " (table ghost))"},
	{"(join (a) (a) (table t) ", ")"},
	{"(union ", " (table ghost))"},
	{"(union (table t) ", ")"},
	{"(distinct ", ")"},
	{"(group () ", ")"},
	{"(group (a a) (a sum ghost) ", ")"},
	{"(distinct (union (table t) (filter ghost (join () () ", " (table ghost)))))"},
}

// fails checks that Out of a plan returns an error, alone and where it is a part of another plan that has errors further right.
func fails(t *testing.T, l []check.Def, s, want string) {
	t.Helper()
	gives(t, l, s, want)
	for _, a := range around {
		gives(t, l, a[0]+s+a[1], want)
	}
	// What stands further left comes first.
	gives(t, l, "(union (table nowhere) "+s+")", "ErrName nowhere")
	gives(t, l, "(join (a) (a) (distinct (filter none (table t))) "+s+")", "ErrName")
}

// both are tables of which many of the tests are made.
var both = defs("t: a Int, b Text, c Int", "u: d Int, b Text, e Text", "v: a Int", "w: s Text")

func TestP101Valid(t *testing.T) {
	for _, l := range [][]check.Def{
		nil,
		{},
		defs("t: a Int"),
		defs("t: a Text"),
		defs("a: a Int", "b: a Int", "c: a Text"),
		defs("t: a Int, b Int, c Int, d Text, e Int, f Text"),
		defs(longName + ": " + longName + " Int"),
		defs("ab: a Int", "a: a Int", "b: b Int", "ba: a Int"),
		// How many tables there may be is no matter of Defs.
		defs("a: a Int", "b: a Int", "c: a Int", "d: a Int", "e: a Int", "f: a Int", "g: a Int", "h: a Int"),
		defs("tab: tables Int", "filters: joins Int", "counts: summ Text"),
	} {
		if why := check.Defs(l); why != api.OK {
			t.Errorf("Defs of %v: %s", l, showErr(why))
		}
		if got, want := out(api.Plan{}, l), "ErrForm"; got != want {
			t.Errorf("Out of no plan, with %v: %s, not %s", l, got, want)
		}
	}
}

// wrong checks an error of Defs, and that Out returns ErrArg then, whatever the plan.
func wrong(t *testing.T, l []check.Def, want api.Errno) {
	t.Helper()
	if why := check.Defs(l); why != want {
		t.Errorf("Defs of %v: %s, not %s", l, showErr(why), showErr(want))
	}
	for _, p := range []api.Plan{
		{},
		{Kind: 8},
		read(t, "(table t)"),
		read(t, "(table ghost)"),
		read(t, "(filter ghost (table t))"),
		read(t, "(join () () (table t) (table t))"),
	} {
		if got := out(p, l); got != "ErrArg" {
			t.Errorf("Out of %v with %v: %s, not ErrArg", p, l, got)
		}
	}
}

func TestP101Names(t *testing.T) {
	names := append([]string{"", "T", "aB", "a1", "1", "a b", " a", "a-b", "a_", "é", "a\x00", "`", "{", "qqqqqqqqqqqqq", strings.Repeat("a", 1000)}, words...)
	for _, name := range names {
		wrong(t, []check.Def{{Name: name, Cols: cols("a Int")}}, api.ErrName)
		wrong(t, []check.Def{{Name: "t", Cols: cols("a Int")}, {Name: name, Cols: cols("a Int")}}, api.ErrName)
		wrong(t, []check.Def{{Name: name, Cols: cols("a Int")}, {Name: "t", Cols: cols("a Int")}}, api.ErrName)
		wrong(t, []check.Def{{Name: "t", Cols: []api.Col{{Name: name, Kind: api.Int}}}}, api.ErrName)
		wrong(t, []check.Def{{Name: "t", Cols: append(cols("a Int"), api.Col{Name: name, Kind: api.Text})}}, api.ErrName)
	}
}

func TestP101Taken(t *testing.T) {
	wrong(t, defs("t: a Int", "t: a Int"), api.ErrTaken)
	wrong(t, defs("t: a Int", "t: b Text, c Int"), api.ErrTaken)
	wrong(t, defs("t: a Int", "u: a Int", "t: a Int"), api.ErrTaken)
	wrong(t, defs("u: a Int", "t: a Int", "t: a Int"), api.ErrTaken)
	wrong(t, defs("u: a Int", "v: a Int", "w: a Int", "a: a Int", "b: a Int", "w: a Int"), api.ErrTaken)
	wrong(t, defs("z: a Int", "z: a Int", "z: a Int"), api.ErrTaken)
	wrong(t, defs(longName+": a Int", longName+": a Int"), api.ErrTaken)
	// Each name in each two places of a list.
	for n := 2; n < 8; n++ {
		for i := range n {
			for k := range i {
				var l []check.Def
				for j := range n {
					l = append(l, check.Def{Name: string(rune('a' + (5*j)%26)), Cols: cols("a Int")})
				}
				if why := check.Defs(l); why != api.OK {
					t.Errorf("Defs of %v: %s", l, showErr(why))
				}
				l[i].Name = l[k].Name
				wrong(t, l, api.ErrTaken)
			}
		}
	}
}

func TestP101Columns(t *testing.T) {
	seven := cols("a Int, b Int, c Int, d Int, e Int, f Int, g Int")
	for _, x := range []struct {
		cols []api.Col
		why  api.Errno
	}{
		{nil, api.ErrCount},
		{[]api.Col{}, api.ErrCount},
		{seven, api.ErrCount},
		{make([]api.Col, 7), api.ErrCount},
		{make([]api.Col, 6), api.ErrName},
		{[]api.Col{{Name: "a"}}, api.ErrName},
		{[]api.Col{{Name: "a", Kind: 3}}, api.ErrName},
		{[]api.Col{{Name: "a", Kind: -1}}, api.ErrName},
		{[]api.Col{{Name: "a", Kind: 1 << 32}}, api.ErrName},
		{[]api.Col{{Name: "a", Kind: 1<<32 + 1}}, api.ErrName},
		{[]api.Col{{Name: "a", Kind: 257}}, api.ErrName},
		{cols("a Int, a Int"), api.ErrTaken},
		{cols("a Int, b Text, a Text"), api.ErrTaken},
		{cols("a Int, b Int, c Int, d Int, e Int, a Int"), api.ErrTaken},
		{[]api.Col{{Name: "a", Kind: 1}, {Name: "a", Kind: 3}}, api.ErrName},
		{[]api.Col{{Name: "a", Kind: 1}, {Name: "a", Kind: 1}, {Name: "", Kind: 1}}, api.ErrTaken},
		{[]api.Col{{Name: "a", Kind: 1}, {Name: "A", Kind: 1}, {Name: "a", Kind: 1}}, api.ErrName},
	} {
		wrong(t, []check.Def{{Name: "t", Cols: x.cols}}, x.why)
		wrong(t, append(defs("a: a Int", "b: b Text"), check.Def{Name: "t", Cols: x.cols}), x.why)
		wrong(t, append([]check.Def{{Name: "t", Cols: x.cols}}, defs("a: a Int", "b: b Text")...), x.why)
	}
	six := []check.Def{{Name: "t", Cols: seven[:6]}}
	if why := check.Defs(six); why != api.OK {
		t.Errorf("Defs of six columns: %s", showErr(why))
	}
}

func TestP101First(t *testing.T) {
	name := check.Def{Name: "T", Cols: cols("a Int")}
	count := check.Def{Name: "n"}
	taken := check.Def{Name: "k", Cols: cols("a Int, a Int")}
	fine := check.Def{Name: "t", Cols: cols("a Int")}
	for _, x := range []struct {
		l   []check.Def
		why api.Errno
	}{
		// Several errors of one definition.
		{[]check.Def{{}}, api.ErrName},
		{[]check.Def{{Name: "table"}}, api.ErrName},
		{[]check.Def{{Name: "T", Cols: cols("a Int, a Int")}}, api.ErrName},
		{[]check.Def{fine, {Name: "t"}}, api.ErrTaken},
		{[]check.Def{fine, {Name: "t", Cols: []api.Col{{Name: "A", Kind: 1}}}}, api.ErrTaken},
		{[]check.Def{{Name: "T", Cols: cols("a Int")}, {Name: "T", Cols: cols("a Int")}}, api.ErrName},
		{[]check.Def{{}, {}}, api.ErrName},
		// Errors of several: those of the first count.
		{[]check.Def{name, count}, api.ErrName},
		{[]check.Def{count, name}, api.ErrCount},
		{[]check.Def{taken, name}, api.ErrTaken},
		{[]check.Def{taken, count}, api.ErrTaken},
		{[]check.Def{count, taken}, api.ErrCount},
		{[]check.Def{count, count}, api.ErrCount},
		{[]check.Def{count, fine, fine}, api.ErrCount},
		{[]check.Def{fine, fine, count}, api.ErrTaken},
		{[]check.Def{fine, count, fine}, api.ErrCount},
		{[]check.Def{fine, name, fine}, api.ErrName},
		{[]check.Def{fine, fine, name}, api.ErrTaken},
		{[]check.Def{fine, name, count, fine}, api.ErrName},
		{[]check.Def{{Name: "t", Cols: []api.Col{{Name: "a"}}}, fine}, api.ErrName},
	} {
		wrong(t, x.l, x.why)
	}
}

// TestP101Many goes on to lists that are far longer than those of a database.
func TestP101Many(t *testing.T) {
	var l []check.Def
	one := cols("a Int")
	for i := range 1 << 17 {
		name := ""
		for n := i * 7 % (1 << 17); len(name) < 5; n /= 26 {
			name += string(rune('a' + n%26))
		}
		l = append(l, check.Def{Name: "x" + name, Cols: one})
	}
	if why := check.Defs(l); why != api.OK {
		t.Errorf("Defs of many: %s", showErr(why))
	}
	if got := out(read(t, "(table "+l[70000].Name+")"), l); got != "a Int" {
		t.Errorf("Out with many: %s", got)
	}
	l[len(l)-1].Name = l[5].Name
	wrong(t, l, api.ErrTaken)
	l[len(l)-2].Cols = nil
	wrong(t, l, api.ErrCount)
	wrong(t, []check.Def{{Name: "t", Cols: make([]api.Col, 1<<20)}}, api.ErrCount)
	same := make([]check.Def, 1<<17)
	for i := range same {
		same[i] = check.Def{Name: "t", Cols: one}
	}
	wrong(t, same, api.ErrTaken)
}

func TestP102Table(t *testing.T) {
	gives(t, defs("t: a Int"), "(table t)", "a Int")
	gives(t, both, "(table t)", "a Int, b Text, c Int")
	gives(t, both, "(table u)", "d Int, b Text, e Text")
	gives(t, both, "(table w)", "s Text")
	gives(t, defs("t: z Text, a Int, y Int, b Text, x Int, c Text"), "(table t)", "z Text, a Int, y Int, b Text, x Int, c Text")
	fails(t, both, "(table x)", "ErrName x")
	fails(t, both, "(table a)", "ErrName a")
	fails(t, both, "(table tt)", "ErrName tt")
	fails(t, both, "(table "+longName+")", "ErrName "+longName)
	gives(t, nil, "(table t)", "ErrName t")
	gives(t, defs("s: a Int", "u: t Int"), "(table t)", "ErrName t")
}

// failing are expressions over table t with an error of each sort that expr.Type tells.
var failing = [][2]string{
	{"x", "ErrName"},
	{"(neg x)", "ErrName"},
	{"(add 1 (sub b x))", "ErrName"},
	{"(add b x)", "ErrName"},
	{"(add x b)", "ErrName"},
	{"(add a b)", "ErrType"},
	{"(add a \"x\")", "ErrType"},
	{"(cat a b)", "ErrType"},
	{"(len a)", "ErrType"},
	{"(not b)", "ErrType"},
	{"(eq a b)", "ErrType"},
	{"(lt b 5)", "ErrType"},
	{"(if b 1 2)", "ErrType"},
	{"(if 1 1 b)", "ErrType"},
	{"(add (neg b) x)", "ErrType"},
	{"(add (neg x) (neg b))", "ErrName"},
}

func TestP102Filter(t *testing.T) {
	for _, e := range []string{"1", "0", "-9223372036854775808", "a", "c", "(lt a 5)", "(eq b \"x\")", "(and a (not c))", "(len b)", "(if a c 3)", "(add 9223372036854775807 1)"} {
		gives(t, both, "(filter "+e+" (table t))", "a Int, b Text, c Int")
		gives(t, both, "(filter "+e+" (filter "+e+" (table t)))", "a Int, b Text, c Int")
	}
	for _, x := range failing {
		fails(t, both, "(filter "+x[0]+" (table t))", x[1])
	}
	for _, e := range []string{"b", "\"x\"", "\"\"", "(cat b b)", "(if 1 b \"x\")"} {
		fails(t, both, "(filter "+e+" (table t))", "ErrType")
	}
	// The columns are those of the Kid.
	gives(t, both, "(filter a (project (a 1) (table w)))", "a Int")
	fails(t, both, "(filter a (project (b a) (table t)))", "ErrName")
	fails(t, both, "(filter a (project (a b) (table t)))", "ErrType")
	fails(t, both, "(filter s (table t))", "ErrName")
}

func TestP102Project(t *testing.T) {
	gives(t, both, "(project (x a) (table t))", "x Int")
	gives(t, both, "(project (a b) (b a) (table t))", "a Text, b Int")
	gives(t, both, "(project (c 1) (a \"x\") (b c) (table t))", "c Int, a Text, b Int")
	gives(t, both, "(project (f (cat b b)) (e (len b)) (d (if a b \"\")) (c (lt b b)) (b b) (a (neg a)) (table t))", "f Text, e Int, d Text, c Int, b Text, a Int")
	gives(t, both, "(project (t t) (project (t a) (table t)))", "t Int")
	for _, x := range failing {
		fails(t, both, "(project (x "+x[0]+") (table t))", x[1])
		fails(t, both, "(project (a a) (x "+x[0]+") (table t))", x[1])
		fails(t, both, "(project (x a) (x "+x[0]+") (table t))", x[1])
		fails(t, both, "(project (x "+x[0]+") (x a) (x a) (table t))", x[1])
		fails(t, both, "(project (y 1) (y 2) (x "+x[0]+") (table t))", "ErrTaken y")
		fails(t, both, "(project (d a) (e a) (f a) (g a) (h a) (i a) (j "+x[0]+") (table t))", x[1])
	}
	// A column of the plan isn't one of its Kid.
	fails(t, both, "(project (d a) (e d) (table t))", "ErrName")
	fails(t, both, "(project (x 1) (x 1) (table t))", "ErrTaken x")
	fails(t, both, "(project (x 1) (x b) (table t))", "ErrTaken x")
	fails(t, both, "(project (x 1) (y 1) (z b) (y 2) (x 1) (table t))", "ErrTaken y")
	fails(t, both, "(project (a a) (b b) (c c) (d a) (e a) (f a) (g a) (table t))", "ErrCount")
	fails(t, both, "(project (a a) (b b) (c c) (d a) (e a) (f a) (f a) (table t))", "ErrTaken f")
	fails(t, both, "(project (a a) (b b) (c c) (d a) (e a) (f a) (g a) (h a) (g b) (table t))", "ErrTaken g")
	fails(t, both, "(project (a a) (b b) (c c) (d a) (e a) (f a) (g a) (h a) (i b) (j 1) (k 1) (table t))", "ErrCount")
}

func TestP102Join(t *testing.T) {
	l := append(slices.Clone(both), defs("x: a Int, b Text", "y: a Text", "z: f Text, g Int", "k: c Int, a Int")...)
	for _, x := range [][2]string{
		{"(join (a) (d) (table t) (project (d d) (f b) (table u)))", "a Int, b Text, c Int, f Text"},
		{"(join (a) (a) (table t) (table v))", "a Int, b Text, c Int"},
		{"(join (c) (a) (table t) (table v))", "a Int, b Text, c Int"},
		{"(join (b) (s) (table t) (table w))", "a Int, b Text, c Int"},
		{"(join (a b) (d b) (table t) (table u))", "a Int, b Text, c Int, e Text"},
		{"(join (b a) (b d) (table t) (table u))", "a Int, b Text, c Int, e Text"},
		{"(join (b) (b) (table t) (table u))", "a Int, b Text, c Int, d Int, e Text"},
		{"(join (b c) (b d) (table t) (table u))", "a Int, b Text, c Int, e Text"},
		{"(join (b) (b) (table u) (table t))", "d Int, b Text, e Text, a Int, c Int"},
		{"(join (e) (f) (table u) (table z))", "d Int, b Text, e Text, g Int"},
		{"(join (d) (g) (table u) (table z))", "d Int, b Text, e Text, f Text"},
		{"(join (a c) (c a) (table t) (table k))", "a Int, b Text, c Int"},
		{"(join (a b) (a b) (table t) (table x))", "a Int, b Text, c Int"},
		{"(join (a b c) (a b c) (table t) (table t))", "a Int, b Text, c Int"},
		{"(join (a b c) (c b a) (table t) (table t))", "a Int, b Text, c Int"},
	} {
		gives(t, l, x[0], x[1])
	}
	// What is not in Right is no key, even if it is in Left.
	fails(t, l, "(join (c) (a) (table t) (table t))", "ErrTaken b")
}

func TestP102JoinKeys(t *testing.T) {
	l := append(slices.Clone(both), defs("x: a Int, b Text", "y: a Text", "z: f Text, g Int", "k: d Int, f Int, g Int", "m: d Int, f Int, g Int, h Text")...)
	for _, x := range [][2]string{
		{"(join () () (table t) (table u))", "ErrCount"},
		{"(join () (d) (table t) (table u))", "ErrCount"},
		{"(join (a) () (table t) (table u))", "ErrCount"},
		{"(join (a) (d d) (table t) (table u))", "ErrCount"},
		{"(join (a c) (d) (table t) (table u))", "ErrCount"},
		{"(join (ghost a) (d) (table t) (table u))", "ErrCount"},
		{"(join (a b c) (d b) (table t) (table u))", "ErrCount"},
		{"(join (d) (a) (table t) (table u))", "ErrName d"},
		{"(join (d) (d) (table t) (table u))", "ErrName d"},
		{"(join (a) (a) (table t) (table u))", "ErrName a"},
		{"(join (a) (f) (table t) (table u))", "ErrName f"},
		{"(join (x) (y) (table t) (table u))", "ErrName x"},
		{"(join (a x) (d y) (table t) (table u))", "ErrName x"},
		{"(join (a b) (d y) (table t) (table u))", "ErrName y"},
		{"(join (a x) (z b) (table t) (table u))", "ErrName z"},
		{"(join (a a) (d y) (table t) (table u))", "ErrName y"},
		{"(join (a a) (d b) (table t) (table u))", "ErrTaken a"},
		{"(join (a a) (d d) (table t) (table u))", "ErrTaken a"},
		{"(join (a c) (d d) (table t) (table u))", "ErrTaken d"},
		{"(join (a b) (d d) (table t) (table u))", "ErrTaken d"},
		{"(join (b b) (b e) (table t) (table u))", "ErrTaken b"},
		{"(join (b b) (b d) (table t) (table u))", "ErrTaken b"},
		{"(join (a b c) (d b d) (table t) (table u))", "ErrTaken d"},
		{"(join (a b a) (d b x) (table t) (table u))", "ErrName x"},
		{"(join (a b x) (d b d) (table t) (table u))", "ErrName x"},
		{"(join (a) (b) (table t) (table u))", "ErrType a"},
		{"(join (b) (d) (table t) (table u))", "ErrType b"},
		{"(join (a b) (d d) (table t) (table u))", "ErrTaken d"},
		{"(join (a b) (b d) (table t) (table u))", "ErrType a"},
		{"(join (a c) (d b) (table t) (table u))", "ErrType c"},
		{"(join (a x) (b y) (table t) (table u))", "ErrType a"},
		{"(join (a a) (b y) (table t) (table u))", "ErrType a"},
		{"(join (a a) (b b) (table t) (table u))", "ErrType a"},
		{"(join (a x) (x d) (table t) (table u))", "ErrName x"},
		{"(join (x a) (d x) (table t) (table u))", "ErrName x"},
		{"(join (a) (a) (table v) (table y))", "ErrType a"},
		// Errors of the pairs come ahead of names that stand on both sides.
		{"(join (a x) (a a) (table t) (table t))", "ErrName x"},
		{"(join (a) (b) (table t) (table x))", "ErrType a"},
		{"(join (a) (a) (table t) (table x))", "ErrTaken b"},
		{"(join (a) (a) (table t) (table t))", "ErrTaken b"},
		{"(join (b) (b) (table t) (table t))", "ErrTaken a"},
		{"(join (b a) (b a) (table t) (table t))", "ErrTaken c"},
		{"(join (a) (d) (table t) (table u))", "ErrTaken b"},
		{"(join (c) (a) (table t) (table v))", "a Int, b Text, c Int"},
		{"(join (a) (d) (table t) (project (d 1) (c c) (b b) (table t)))", "ErrTaken c"},
	} {
		if strings.HasPrefix(x[1], "Err") {
			fails(t, l, x[0], x[1])
		} else {
			gives(t, l, x[0], x[1])
		}
	}
}

func TestP102JoinCount(t *testing.T) {
	l := defs("t: a Int, b Text, c Int", "k: d Int, f Int, g Int", "m: d Int, f Int, g Int, h Text", "o: d Int, f Int, g Int, h Text, i Int",
		"six: a Int, b Int, c Int, d Int, e Int, f Int", "one: a Int", "two: a Int, g Int", "more: a Int, g Int, h Int, i Int, j Int, k Int", "both: a Int, b Int, g Int, h Int, i Int, j Int")
	gives(t, l, "(join (a) (d) (table t) (table k))", "a Int, b Text, c Int, f Int, g Int")
	gives(t, l, "(join (a) (d) (table t) (table m))", "a Int, b Text, c Int, f Int, g Int, h Text")
	gives(t, l, "(join (c) (g) (table t) (table m))", "a Int, b Text, c Int, d Int, f Int, h Text")
	fails(t, l, "(join (a) (d) (table t) (table o))", "ErrCount")
	gives(t, l, "(join (a c) (d g) (table t) (table o))", "a Int, b Text, c Int, f Int, h Text, i Int")
	gives(t, l, "(join (a) (a) (table six) (table one))", "a Int, b Int, c Int, d Int, e Int, f Int")
	gives(t, l, "(join (a) (a) (table one) (table six))", "a Int, b Int, c Int, d Int, e Int, f Int")
	gives(t, l, "(join (f) (a) (table six) (table one))", "a Int, b Int, c Int, d Int, e Int, f Int")
	fails(t, l, "(join (a) (a) (table six) (table two))", "ErrCount")
	gives(t, l, "(join (a) (g) (table six) (project (g g) (table two)))", "a Int, b Int, c Int, d Int, e Int, f Int")
	fails(t, l, "(join (a) (a) (table six) (table more))", "ErrCount")
	fails(t, l, "(join (a) (a) (table six) (table both))", "ErrTaken b")
	fails(t, l, "(join (f) (j) (table six) (table both))", "ErrTaken a")
	gives(t, l, "(join (a b c d e f) (a b c d e f) (table six) (table six))", "a Int, b Int, c Int, d Int, e Int, f Int")
	gives(t, l, "(join (a b c d e f) (f e d c b a) (table six) (table six))", "a Int, b Int, c Int, d Int, e Int, f Int")
	// A name further right that stands on both sides comes ahead of the number of columns.
	fails(t, l, "(join (a) (g) (table six) (table both))", "ErrTaken a")
	fails(t, l, "(join (a) (x) (table six) (project (x 1) (g 1) (h 1) (i 1) (f 1) (table one)))", "ErrTaken f")
}

func TestP102Union(t *testing.T) {
	l := append(slices.Clone(both), defs("x: d Int, e Text, f Int", "y: f Text, g Int, h Int", "z: d Int, e Int, f Text", "ab: a Int, b Text", "cd: a Text, b Text, c Text, d Text", "six: a Int, b Int, c Int, d Int, e Int, f Text")...)
	for _, x := range [][2]string{
		{"(union (table t) (table t))", "a Int, b Text, c Int"},
		{"(union (table t) (table x))", "a Int, b Text, c Int"},
		{"(union (table x) (table t))", "d Int, e Text, f Int"},
		{"(union (table v) (project (x 1) (table w)))", "a Int"},
		{"(union (project (x 1) (table w)) (table v))", "x Int"},
		{"(union (table six) (table six))", "a Int, b Int, c Int, d Int, e Int, f Text"},
		{"(union (union (table x) (table t)) (union (table t) (table x)))", "d Int, e Text, f Int"},
	} {
		gives(t, l, x[0], x[1])
	}
	for _, x := range [][2]string{
		{"(union (table t) (table v))", "ErrCount"},
		{"(union (table v) (table t))", "ErrCount"},
		{"(union (table t) (table ab))", "ErrCount"},
		{"(union (table ab) (table t))", "ErrCount"},
		{"(union (table t) (table cd))", "ErrCount"},
		{"(union (table cd) (table t))", "ErrCount"},
		{"(union (table w) (table ab))", "ErrCount"},
		{"(union (table v) (table w))", "ErrType a"},
		{"(union (table w) (table v))", "ErrType s"},
		{"(union (table t) (table u))", "ErrType c"},
		{"(union (table u) (table t))", "ErrType e"},
		{"(union (table t) (table y))", "ErrType a"},
		{"(union (table y) (table t))", "ErrType f"},
		{"(union (table t) (table z))", "ErrType b"},
		{"(union (table z) (table t))", "ErrType e"},
	} {
		fails(t, l, x[0], x[1])
	}
}

func TestP102Distinct(t *testing.T) {
	gives(t, both, "(distinct (table t))", "a Int, b Text, c Int")
	gives(t, both, "(distinct (distinct (distinct (table w))))", "s Text")
	gives(t, both, "(distinct (project (z 1) (y b) (table t)))", "z Int, y Text")
	fails(t, both, "(distinct (table x))", "ErrName x")
	fails(t, both, "(distinct (filter b (table t)))", "ErrType")
}

func TestP102Group(t *testing.T) {
	for _, x := range [][2]string{
		{"(group () (n count) (table t))", "n Int"},
		{"(group (a) (table t))", "a Int"},
		{"(group (b) (table t))", "b Text"},
		{"(group (b a) (table t))", "b Text, a Int"},
		{"(group (c b a) (table t))", "c Int, b Text, a Int"},
		{"(group (a) (n count) (table t))", "a Int, n Int"},
		{"(group (a) (c count) (table t))", "a Int, c Int"},
		{"(group (a) (b count) (table t))", "a Int, b Int"},
		{"(group () (n sum a) (table t))", "n Int"},
		{"(group (a) (n sum a) (table t))", "a Int, n Int"},
		{"(group () (n min a) (m max a) (table t))", "n Int, m Int"},
		{"(group () (n min b) (m max b) (table t))", "n Text, m Text"},
		{"(group (b) (x min b) (y max c) (z count) (w sum c) (table t))", "b Text, x Text, y Int, z Int, w Int"},
		{"(group () (a min b) (b max a) (c sum a) (table t))", "a Text, b Int, c Int"},
		{"(group () (a count) (b sum a) (table t))", "a Int, b Int"},
		{"(group (a b c) (d count) (e count) (f min b) (table t))", "a Int, b Text, c Int, d Int, e Int, f Text"},
		{"(group () (a min b) (b min b) (c count) (d min a) (e count) (f min b) (table t))", "a Text, b Text, c Int, d Int, e Int, f Text"},
	} {
		gives(t, both, x[0], x[1])
	}
	// Six keys and no function.
	six := defs("six: a Int, b Int, c Int, d Int, e Int, f Text")
	gives(t, six, "(group (f e d c b a) (table six))", "f Text, e Int, d Int, c Int, b Int, a Int")
	gives(t, six, "(group (f e d c b a) (g count) (table six))", "ErrCount")
}

func TestP102GroupWrong(t *testing.T) {
	for _, x := range [][2]string{
		{"(group (x) (table t))", "ErrName x"},
		{"(group (a x y) (table t))", "ErrName x"},
		{"(group (t) (table t))", "ErrName t"},
		{"(group (n) (n count) (table t))", "ErrName n"},
		{"(group (a a) (table t))", "ErrTaken a"},
		{"(group (a b c b) (table t))", "ErrTaken b"},
		{"(group (a a x) (table t))", "ErrTaken a"},
		{"(group (a x a) (table t))", "ErrName x"},
		{"(group (x x) (table t))", "ErrName x"},
		{"(group (a) (a count) (table t))", "ErrTaken a"},
		{"(group (b a) (a count) (table t))", "ErrTaken a"},
		{"(group (b a) (b count) (a count) (table t))", "ErrTaken b"},
		{"(group (a a) (b sum b) (table t))", "ErrTaken a"},
		{"(group (x) (b sum b) (table t))", "ErrName x"},
		{"(group () (n count) (n count) (table t))", "ErrTaken n"},
		{"(group () (n count) (n sum a) (table t))", "ErrTaken n"},
		{"(group () (n count) (m count) (o sum a) (m sum x) (table t))", "ErrTaken m"},
		{"(group () (n sum x) (table t))", "ErrName x"},
		{"(group () (n min x) (table t))", "ErrName x"},
		{"(group () (n max x) (table t))", "ErrName x"},
		{"(group () (n count) (m max n) (table t))", "ErrName n"},
		{"(group (a) (n sum x) (n count) (table t))", "ErrName x"},
		{"(group (a) (a sum x) (table t))", "ErrTaken a"},
		{"(group (a) (a min x) (table t))", "ErrTaken a"},
		{"(group (a) (a sum b) (table t))", "ErrTaken a"},
		{"(group (a) (n count) (n sum b) (table t))", "ErrTaken n"},
		{"(group () (n sum b) (table t))", "ErrType b"},
		{"(group (b) (n sum b) (table t))", "ErrType b"},
		{"(group (a) (n sum b) (n count) (table t))", "ErrType b"},
		{"(group (a) (n sum b) (m sum x) (table t))", "ErrType b"},
		{"(group (a) (n sum x) (m sum b) (table t))", "ErrName x"},
		{"(group () (n min b) (m sum b) (table t))", "ErrType b"},
		{"(group () (table t))", "ErrCount"},
		{"(group () (table v))", "ErrCount"},
		{"(group () (a count) (b count) (c count) (d count) (e count) (f count) (g count) (table t))", "ErrCount"},
		{"(group (a b c) (d count) (e count) (f count) (g count) (table t))", "ErrCount"},
		{"(group (a b c) (d count) (e count) (f count) (g count) (h count) (i count) (table t))", "ErrCount"},
		{"(group (a b c) (d count) (e count) (f count) (g count) (g count) (table t))", "ErrTaken g"},
		{"(group (a b c) (d count) (e count) (f count) (g count) (h sum b) (table t))", "ErrType b"},
		{"(group (a b c) (d count) (e count) (f count) (g count) (h max x) (table t))", "ErrName x"},
		{"(group (a b c) (d count) (e count) (f count) (a count) (table t))", "ErrTaken a"},
	} {
		fails(t, both, x[0], x[1])
	}
}

// TestP102Within goes into plans within plans, as deep as they may be.
func TestP102Within(t *testing.T) {
	gives(t, both, "(group (b) (n count) (join (b) (b) (filter (lt a 5) (table t)) (distinct (union (table u) (project (d 1) (b b) (e b) (table t))))))", "b Text, n Int")
	gives(t, both, "(project (p (add n a)) (q b) (group (a b) (n sum d) (join (b) (b) (table t) (table u))))", "p Int, q Text")
	deep, last := "(table t)", "a Int, b Text, c Int"
	for i := range api.MaxDeep - 2 {
		switch i % 5 {
		case 0:
			deep = "(distinct " + deep + ")"
		case 1:
			deep = "(filter 1 " + deep + ")"
		case 2:
			deep = "(union " + deep + " (table t))"
		case 3:
			deep = "(union (table t) " + deep + ")"
		case 4:
			deep = "(join (a b c) (a b c) " + deep + " (table t))"
		}
		gives(t, both, deep, last)
		gives(t, both, strings.Replace(deep, "(table t)", "(table x)", 1), "ErrName x")
	}
	gives(t, both, "(distinct "+deep+")", last)
	deep = "(table t)"
	for range api.MaxDeep - 1 {
		deep = "(distinct " + deep + ")"
	}
	gives(t, both, deep, last)
	gives(t, both, strings.Replace(deep, "table t", "table x", 1), "ErrName x")
	// The first Kid comes first, and each ahead of what it stands in.
	gives(t, both, "(union (table x) (table y))", "ErrName x")
	gives(t, both, "(union (filter b (table t)) (table y))", "ErrType")
	gives(t, both, "(union (table t) (table y))", "ErrName y")
	gives(t, both, "(union (union (table t) (table v)) (table y))", "ErrCount")
	gives(t, both, "(join (x) (x) (table t) (table y))", "ErrName y")
	gives(t, both, "(join () () (group () (table t)) (filter x (table t)))", "ErrCount")
	gives(t, both, "(filter x (project (x 1) (x 1) (table v)))", "ErrTaken x")
}

// unreadable are Plans that plan.Read cannot return, some of them with errors of their columns.
func unreadable() []api.Plan {
	table := api.Plan{Kind: api.Table, Name: "t"}
	one := api.Expr{Kind: api.Number, N: 1}
	kids := []api.Plan{table}
	deep := table
	for range api.MaxDeep {
		deep = api.Plan{Kind: api.Distinct, Kids: []api.Plan{deep}}
	}
	wide := table
	for range 6 {
		wide = api.Plan{Kind: api.Union, Kids: []api.Plan{wide, wide}}
	}
	return []api.Plan{
		{},
		{Kind: -1},
		{Kind: 8},
		{Kind: 8, Kids: kids},
		{Kind: api.Table},
		{Kind: api.Table, Name: "T"},
		{Kind: api.Table, Name: "table"},
		{Kind: api.Table, Name: "ghost", Kids: kids},
		{Kind: api.Table, Name: "t", Left: []string{"a"}},
		{Kind: api.Filter},
		{Kind: api.Filter, Kids: kids},
		{Kind: api.Filter, Exprs: []api.Expr{one}},
		{Kind: api.Filter, Exprs: []api.Expr{{}}, Kids: kids},
		{Kind: api.Filter, Exprs: []api.Expr{{Kind: api.Apply, S: "add"}}, Kids: kids},
		{Kind: api.Filter, Exprs: []api.Expr{{Kind: api.Column, S: "sum"}}, Kids: kids},
		{Kind: api.Filter, Exprs: []api.Expr{{Kind: api.String, S: strings.Repeat("x", api.MaxText+1)}}, Kids: kids},
		{Kind: api.Filter, Exprs: []api.Expr{one, one}, Kids: kids},
		{Kind: api.Filter, Exprs: []api.Expr{one}, Kids: []api.Plan{table, table}},
		{Kind: api.Project, Kids: kids},
		{Kind: api.Project, Cols: []string{"a"}, Kids: kids},
		{Kind: api.Project, Exprs: []api.Expr{one}, Kids: kids},
		{Kind: api.Project, Cols: []string{"a", "b"}, Exprs: []api.Expr{one}, Kids: kids},
		{Kind: api.Project, Cols: []string{"a"}, Exprs: []api.Expr{one, one}, Kids: kids},
		{Kind: api.Project, Cols: []string{"a"}, Exprs: []api.Expr{one}},
		{Kind: api.Join},
		{Kind: api.Join, Left: []string{"a"}, Right: []string{"a"}},
		{Kind: api.Join, Left: []string{"a"}, Right: []string{"a"}, Kids: kids},
		{Kind: api.Join, Left: []string{""}, Right: []string{"a"}, Kids: []api.Plan{table, table}},
		{Kind: api.Join, Left: []string{"a"}, Right: []string{"max"}, Kids: []api.Plan{table, table}},
		{Kind: api.Join, Left: []string{"a"}, Right: []string{"a"}, Kids: []api.Plan{table, table, table}},
		{Kind: api.Union},
		{Kind: api.Union, Kids: kids},
		{Kind: api.Union, Kids: []api.Plan{table, {}}},
		{Kind: api.Union, Kids: []api.Plan{{}, table}},
		{Kind: api.Union, Kids: []api.Plan{{Kind: api.Table, Name: "ghost"}, {}}},
		{Kind: api.Distinct},
		{Kind: api.Distinct, Kids: []api.Plan{table, table}},
		{Kind: api.Distinct, Name: "t", Kids: kids},
		{Kind: api.Group},
		{Kind: api.Group, Left: []string{"a"}},
		{Kind: api.Group, Left: []string{"A"}, Kids: kids},
		{Kind: api.Group, Left: []string{"a"}, Right: []string{"a"}, Kids: kids},
		{Kind: api.Group, Aggs: []api.Agg{{}}, Kids: kids},
		{Kind: api.Group, Aggs: []api.Agg{{Name: "n", Fun: "avg", Col: "a"}}, Kids: kids},
		{Kind: api.Group, Aggs: []api.Agg{{Name: "n", Fun: "count", Col: "a"}}, Kids: kids},
		{Kind: api.Group, Aggs: []api.Agg{{Name: "n", Fun: "sum"}}, Kids: kids},
		deep,
		wide,
	}
}

func TestP102Unreadable(t *testing.T) {
	for _, p := range unreadable() {
		for _, l := range [][]check.Def{both, nil, defs("t: a Int")} {
			if got := out(p, l); got != "ErrForm" {
				t.Errorf("Out of %.300s: %s, not ErrForm", fmt.Sprint(p), got)
			}
			// Nothing else of a plan comes ahead of ErrForm, and what is wrong with the tables does.
			around := api.Plan{Kind: api.Union, Kids: []api.Plan{{Kind: api.Table, Name: "ghost"}, p}}
			if got := out(around, l); got != "ErrForm" {
				t.Errorf("Out of %.300s: %s, not ErrForm", fmt.Sprint(around), got)
			}
		}
		if got := out(p, defs("t: a Int", "t: a Int")); got != "ErrArg" {
			t.Errorf("Out of %.300s with wrong tables: %s, not ErrArg", fmt.Sprint(p), got)
		}
	}
}

// TestP102Endless holds Out against plans that lie within themselves.
func TestP102Endless(t *testing.T) {
	for _, kind := range []int{0, api.Table, api.Filter, api.Project, api.Join, api.Union, api.Distinct, api.Group} {
		p := api.Plan{Kind: kind, Name: "t", Kids: make([]api.Plan, 2)}
		p.Kids[0], p.Kids[1] = p, p
		if got := out(p, both); got != "ErrForm" {
			t.Errorf("Out of an endless plan of Kind %d: %s, not ErrForm", kind, got)
		}
		p = api.Plan{Kind: kind, Kids: make([]api.Plan, 1)}
		p.Kids[0] = p
		if got := out(p, both); got != "ErrForm" {
			t.Errorf("Out of an endless plan of Kind %d: %s, not ErrForm", kind, got)
		}
	}
	e := api.Expr{Kind: api.Apply, S: "add", Kids: make([]api.Expr, 2)}
	e.Kids[0], e.Kids[1] = e, e
	table := []api.Plan{{Kind: api.Table, Name: "t"}}
	for _, p := range []api.Plan{
		{Kind: api.Filter, Exprs: []api.Expr{e}, Kids: table},
		{Kind: api.Project, Cols: []string{"a"}, Exprs: []api.Expr{e}, Kids: table},
		{Kind: api.Union, Kids: make([]api.Plan, 1<<20)},
		{Kind: api.Group, Left: make([]string, 1<<20), Kids: table},
	} {
		if got := out(p, both); got != "ErrForm" {
			t.Errorf("Out of a plan with no end: %s, not ErrForm", got)
		}
	}
}
