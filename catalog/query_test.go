package catalog_test

import (
	"reflect"
	"strings"
	"testing"

	"confluence/api"
	"confluence/catalog"
	"confluence/check"
	"confluence/plan"
)

func TestP152NewHasNothing(t *testing.T) {
	d := start(t)
	if l := d.catalog.Tables(); len(l) != 0 {
		t.Errorf("P15.2: Tables: %v", l)
	}
	if l := d.catalog.Views(); len(l) != 0 {
		t.Errorf("P15.2: Views: %v", l)
	}
	for _, name := range []string{"", "t", "v"} {
		if l := d.catalog.Users(name); len(l) != 0 {
			t.Errorf("P15.2: Users(%q): %v", name, l)
		}
	}
}

// orders are all orders of some names.
func orders(names []string) [][]string {
	if len(names) == 0 {
		return [][]string{nil}
	}
	var all [][]string
	for i := range names {
		var rest []string
		rest = append(append(rest, names[:i]...), names[i+1:]...)
		for _, l := range orders(rest) {
			all = append(all, append([]string{names[i]}, l...))
		}
	}
	return all
}

// sorted are names in their order: a name comes ahead of those that it begins.
var sorted = []string{"a", "aa", "ab", "b", "ba"}

func TestP152TablesInOrder(t *testing.T) {
	want := "a: xa Int; aa: xaa Int; ab: xab Int; b: xb Int; ba: xba Int"
	for _, names := range orders(sorted) {
		d := start(t)
		for _, name := range names {
			d.makeTable(name+": x"+name+" Int", "OK")
		}
		d.hasTables(want)
		d.dropTable(names[0], "OK")
		d.dropTable(names[3], "OK")
		d.makeTable(names[3]+": x"+names[3]+" Int", "OK")
		d.makeTable(names[0]+": x"+names[0]+" Int", "OK")
		d.hasTables(want)
	}
}

func TestP152ViewsInOrder(t *testing.T) {
	var want []string
	for _, name := range sorted {
		want = append(want, name+": (project (x"+name+" c) (table t)) x"+name+" Text")
	}
	for _, names := range orders(sorted) {
		d := start(t)
		d.makeTable("t: c Text", "OK")
		for _, name := range names {
			d.makeView(name, "(project (x"+name+" c) (table t))", "OK")
		}
		d.hasViews(strings.Join(want, "; "))
		d.hasUsers("t", strings.Join(sorted, " "))
		d.dropView(names[0], "OK")
		d.dropView(names[3], "OK")
		d.makeView(names[3], "(project (x"+names[3]+" c) (table t))", "OK")
		d.makeView(names[0], "(project (x"+names[0]+" c) (table t))", "OK")
		d.hasViews(strings.Join(want, "; "))
		d.hasUsers("t", strings.Join(sorted, " "))
	}
}

// TestP152OrderOfBothTogether has the names of tables and views between each other.
func TestP152OrderOfBothTogether(t *testing.T) {
	d := start(t)
	d.makeTable("m: a Int", "OK")
	for _, name := range []string{"z", "b", "y", "n"} {
		d.makeView(name, "(table m)", "OK")
		d.makeTable(name+name+": a Int", "OK")
	}
	d.makeTable("a: a Int", "OK")
	d.hasTables("a: a Int; bb: a Int; m: a Int; nn: a Int; yy: a Int; zz: a Int")
	d.hasViews("b: (table m) a Int; n: (table m) a Int; y: (table m) a Int; z: (table m) a Int")
}

// TestP152Text is what plan.Print makes of the plan, however the text was written.
func TestP152Text(t *testing.T) {
	for text, want := range map[string]string{
		"(table t)":                        "(table t)",
		" ( table\n\n t ) \n":              "(table t)",
		"(distinct(table t))":              "(distinct (table t))",
		"(filter(lt a 5)(table t))":        "(filter (lt a 5) (table t))",
		"(filter(lt a -0)(table t))":       "(filter (lt a 0) (table t))",
		"(filter (lt -007 0012)(table t))": "(filter (lt -7 12) (table t))",
		`(filter(eq b"\41\5c")(table t))`:  `(filter (eq b "A\5c") (table t))`,
		"(group(a b)(n count)(table t))":   "(group (a b) (n count) (table t))",
		"(join(a)(c)(table t)(table u))":   "(join (a) (c) (table t) (table u))",
		asLong:                             asLong,
		tight(asLong):                      asLong,
	} {
		d := common(t)
		d.makeView("w", text, "OK")
		d.state()
		v := d.catalog.Views()[1]
		p, why, _ := plan.Read(text)
		if why != api.OK || v.Name != "w" || v.Text != want || !alike(v.Plan, p) {
			t.Errorf("P15.2: the view %s: %s, %s", text, v.Text, plan.Print(v.Plan))
		}
	}
}

// alike reports whether two plans are the same. A list without elements may be nil or not.
func alike(p, q api.Plan) bool {
	return plan.Print(p) == plan.Print(q) && plan.Print(p) != "" && reflect.DeepEqual(plan.Tables(p), plan.Tables(q)) && plan.Size(p) == plan.Size(q)
}

func TestP152Cols(t *testing.T) {
	d := common(t)
	for text, want := range map[string]string{
		"(table t)":                                            "a Int, b Text",
		"(filter a (table t))":                                 "a Int, b Text",
		"(project (x b) (y (len b)) (table t))":                "x Text, y Int",
		"(join (a) (c) (table t) (table u))":                   "a Int, b Text, d Int",
		"(join (c) (a) (table u) (table t))":                   "c Int, d Int, b Text",
		"(union (project (x c) (y \"\") (table u)) (table t))": "x Int, y Text",
		"(distinct (table u))":                                 "c Int, d Int",
		"(group (b a) (n count) (m min b) (table t))":          "b Text, a Int, n Int, m Text",
	} {
		d.makeView("w", text, "OK")
		if l := d.catalog.Views(); len(l) != 2 || showCols(l[1].Cols) != want {
			t.Errorf("P15.2: %s: %s, not %s", text, showViews(l), want)
		}
		d.dropView("w", "OK")
	}
}

func TestP152Users(t *testing.T) {
	d := common(t)
	d.makeTable("x: c Int", "OK")
	d.hasUsers("t", "v")
	d.hasUsers("u", "")
	d.makeView("z", "(union (table x) (project (c c) (table u)))", "OK")
	d.makeView("y", "(join (a) (c) (table t) (table u))", "OK")
	d.makeView("a", "(union (table t) (table t))", "OK")
	d.makeView("m", "(group () (n count) (join (a) (c) (filter a (table t)) (distinct (table x))))", "OK")
	d.hasUsers("t", "a m v y")
	d.hasUsers("u", "y z")
	d.hasUsers("x", "m z")
	for _, name := range append([]string{"v", "z", "y", "a", "m", "s", "tt", "b", "c", "n"}, badNames...) {
		d.hasUsers(name, "")
	}
	d.dropView("y", "OK")
	d.hasUsers("t", "a m v")
	d.hasUsers("u", "z")
	d.dropView("z", "OK")
	d.hasUsers("u", "")
	d.hasUsers("x", "m")
}

func TestP152UsersOfEachKind(t *testing.T) {
	for _, s := range uses {
		d := common(t)
		d.dropView("v", "OK")
		d.makeView("w", s, "OK")
		d.hasUsers("t", "w")
		want := ""
		if strings.Contains(s, "(table u)") {
			want = "w"
		}
		d.hasUsers("u", want)
		d.dropView("w", "OK")
		d.hasUsers("t", "")
	}
}

// TestR1None calls the methods of nil.
func TestR1None(t *testing.T) {
	var c *catalog.Catalog
	if why := c.MakeTable("t", cols("a Int")); why != api.ErrArg {
		t.Errorf("R1: MakeTable: %s", showErr(why))
	}
	if why := c.MakeTable("", nil); why != api.ErrArg {
		t.Errorf("R1: MakeTable: %s", showErr(why))
	}
	if why, name := c.DropTable("t"); why != api.ErrArg || name != "" {
		t.Errorf("R1: DropTable: %s", answer(why, 0, name))
	}
	for _, text := range []string{"(table t)", "(", "", "(table 5)"} {
		if why, at, name := c.MakeView("v", text); why != api.ErrArg || at != 0 || name != "" {
			t.Errorf("R1: MakeView: %s", answer(why, at, name))
		}
	}
	if why := c.DropView("v"); why != api.ErrArg {
		t.Errorf("R1: DropView: %s", showErr(why))
	}
	if l := c.Tables(); l != nil {
		t.Errorf("R1: Tables: %v", l)
	}
	if l := c.Views(); l != nil {
		t.Errorf("R1: Views: %v", l)
	}
	if l := c.Users("t"); l != nil {
		t.Errorf("R1: Users: %v", l)
	}
	if b := c.Save(); b != nil {
		t.Errorf("R1: Save: %x", b)
	}
}

// TestExamples are those of the chapter.
func TestExamples(t *testing.T) {
	d := start(t)
	d.makeView("v", "(table t)", "ErrName t")
	d.makeTable("t: a Int", "OK")
	d.makeView("v", "(table t)", "OK")
	d.dropTable("t", "ErrUsed v")
	d.makeView("w", "(table v)", "ErrName v")
	d.dropView("v", "OK")
	d.makeTable("v: a Int", "OK")
	d.makeView("w", "(table v)", "OK")
}

// TestW1OnDefinitions hands what Tables gives on to check, as later layers do.
func TestW1OnDefinitions(t *testing.T) {
	d := common(t)
	if why := check.Defs(d.catalog.Tables()); why != api.OK {
		t.Errorf("P15.2: Tables: %s", showErr(why))
	}
}
