package catalog_test

import (
	"bytes"
	"fmt"
	"slices"
	"strings"
	"testing"

	"confluence/api"
	"confluence/catalog"
	"confluence/check"
	"confluence/plan"
)

// words are those that are no names.
var words = strings.Fields("table filter project join union distinct group count sum min max add sub mul neg eq lt and or not cat len if")

// longName is as long as a name may be.
var longName = strings.Repeat("q", api.MaxName)

// badNames are no names.
var badNames = append([]string{"", longName + "q", strings.Repeat("a", 1000), "T", "aB", "a1", "1", "a b", " a", "a ", "a\n", "a-b", "a_b", "(a)", "\"a\"", "ä", "a\x00", "\x00", "\xff", "`", "{", "a`", "a{"}, words...)

// cols returns the columns that a text like "a Int, b Text" tells. Of a Kind that is neither, the number stands there.
func cols(s string) []api.Col {
	var l []api.Col
	if s == "" {
		return nil
	}
	for c := range strings.SplitSeq(s, ", ") {
		name, kind, _ := strings.Cut(c, " ")
		x := api.Col{Name: name}
		switch kind {
		case "Int":
			x.Kind = api.Int
		case "Text":
			x.Kind = api.Text
		default:
			fmt.Sscan(kind, &x.Kind)
		}
		l = append(l, x)
	}
	return l
}

func showCols(l []api.Col) string {
	var all []string
	for _, c := range l {
		switch c.Kind {
		case api.Int:
			all = append(all, c.Name+" Int")
		case api.Text:
			all = append(all, c.Name+" Text")
		default:
			all = append(all, fmt.Sprint(c.Name, " ", c.Kind))
		}
	}
	return strings.Join(all, ", ")
}

func showErr(why api.Errno) string {
	switch why {
	case api.OK:
		return "OK"
	case api.ErrArg:
		return "ErrArg"
	case api.ErrLong:
		return "ErrLong"
	case api.ErrEnd:
		return "ErrEnd"
	case api.ErrTail:
		return "ErrTail"
	case api.ErrForm:
		return "ErrForm"
	case api.ErrFull:
		return "ErrFull"
	case api.ErrDeep:
		return "ErrDeep"
	case api.ErrName:
		return "ErrName"
	case api.ErrTaken:
		return "ErrTaken"
	case api.ErrType:
		return "ErrType"
	case api.ErrCount:
		return "ErrCount"
	case api.ErrUsed:
		return "ErrUsed"
	}
	return fmt.Sprintf("error %d", why)
}

// answer tells an error with its offset and name, if they are not 0 and empty.
func answer(why api.Errno, at int, name string) string {
	s := showErr(why)
	if at != 0 {
		s += fmt.Sprint(" ", at)
	}
	if name != "" {
		s += " " + name
	}
	return s
}

func showTables(l []check.Def) string {
	var all []string
	for _, d := range l {
		all = append(all, d.Name+": "+showCols(d.Cols))
	}
	return strings.Join(all, "; ")
}

func showViews(l []catalog.View) string {
	var all []string
	for _, v := range l {
		all = append(all, v.Name+": "+v.Text+" "+showCols(v.Cols))
	}
	return strings.Join(all, "; ")
}

// db is a catalog under test.
type db struct {
	t       *testing.T
	catalog *catalog.Catalog
}

func start(t *testing.T) db {
	t.Helper()
	c := catalog.New()
	if c == nil {
		t.Fatal("P15.1: New returns nil")
	}
	return db{t, c}
}

// state tells all that the queries return, and holds what they say of each other.
func (d db) state() string {
	d.t.Helper()
	tables, views := d.catalog.Tables(), d.catalog.Views()
	s := showTables(tables) + " | " + showViews(views) + " |"
	for _, x := range tables {
		s += " " + x.Name + fmt.Sprint(d.catalog.Users(x.Name))
	}
	for _, v := range views {
		if text := plan.Print(v.Plan); text == "" || v.Text != text {
			d.t.Fatalf("P15.2: view %s has the plan %s and the Text %s", v.Name, text, v.Text)
		}
		want, why, _ := check.Out(v.Plan, tables)
		if why != api.OK || !slices.Equal(v.Cols, want) {
			d.t.Fatalf("P15.2: view %s has the columns %s, not %s", v.Name, showCols(v.Cols), showCols(want))
		}
	}
	return s
}

// same checks what a call answered; beside an error, that nothing has changed.
func (d db) same(call, got, want, before string, saved []byte) {
	d.t.Helper()
	if got != want {
		d.t.Errorf("P15.1: %s: %s, not %s", call, got, want)
	}
	if got != "OK" && (d.state() != before || !bytes.Equal(d.catalog.Save(), saved)) {
		d.t.Errorf("R3: %s has changed %s to %s", call, before, d.state())
	}
}

func (d db) makeCols(name string, l []api.Col, want string) {
	d.t.Helper()
	before, saved := d.state(), d.catalog.Save()
	got := showErr(d.catalog.MakeTable(name, l))
	d.same(fmt.Sprintf("MakeTable(%q, %s)", name, showCols(l)), got, want, before, saved)
}

// makeTable makes a table that a text like "t: a Int, b Text" tells.
func (d db) makeTable(s, want string) {
	d.t.Helper()
	name, rest, _ := strings.Cut(s, ": ")
	d.makeCols(name, cols(rest), want)
}

func (d db) dropTable(name, want string) {
	d.t.Helper()
	before, saved := d.state(), d.catalog.Save()
	why, user := d.catalog.DropTable(name)
	d.same(fmt.Sprintf("DropTable(%q)", name), answer(why, 0, user), want, before, saved)
}

func (d db) makeView(name, text, want string) {
	d.t.Helper()
	before, saved := d.state(), d.catalog.Save()
	got := answer(d.catalog.MakeView(name, text))
	d.same(fmt.Sprintf("MakeView(%q, %q)", name, text), got, want, before, saved)
}

func (d db) dropView(name, want string) {
	d.t.Helper()
	before, saved := d.state(), d.catalog.Save()
	got := showErr(d.catalog.DropView(name))
	d.same(fmt.Sprintf("DropView(%q)", name), got, want, before, saved)
}

// hasTables checks what Tables returns.
func (d db) hasTables(want string) {
	d.t.Helper()
	if got := showTables(d.catalog.Tables()); got != want {
		d.t.Errorf("P15.2: Tables: %s, not %s", got, want)
	}
}

// hasViews checks what Views returns.
func (d db) hasViews(want string) {
	d.t.Helper()
	d.state()
	if got := showViews(d.catalog.Views()); got != want {
		d.t.Errorf("P15.2: Views: %s, not %s", got, want)
	}
}

// hasUsers checks what Users returns: names with blanks between them.
func (d db) hasUsers(table, want string) {
	d.t.Helper()
	if got := strings.Join(d.catalog.Users(table), " "); got != want {
		d.t.Errorf("P15.2: Users(%q): %s, not %s", table, got, want)
	}
}

// common is a catalog of two tables and a view.
func common(t *testing.T) db {
	t.Helper()
	d := start(t)
	d.makeTable("t: a Int, b Text", "OK")
	d.makeTable("u: c Int, d Int", "OK")
	d.makeView("v", "(table t)", "OK")
	return d
}

// letters are names in their order: as many as asked for, behind a prefix.
func letters(prefix string, n int) []string {
	var l []string
	for i := range n {
		l = append(l, prefix+string(rune('a'+i)))
	}
	return l
}

func TestP151New(t *testing.T) {
	d := start(t)
	d.hasTables("")
	d.hasViews("")
	d.makeTable("t: a Int", "OK")
	other := start(t)
	other.hasTables("")
	d.hasTables("t: a Int")
}

func TestP151MakeTable(t *testing.T) {
	d := start(t)
	d.makeTable("t: a Int", "OK")
	d.makeTable("u: a Text, b Int, c Text, d Int, e Int, f Text", "OK")
	d.makeTable(longName+": "+longName+" Text", "OK")
	d.makeTable("a: t Int, a Int", "OK")
	d.hasTables("a: t Int, a Int; " + longName + ": " + longName + " Text; t: a Int; u: a Text, b Int, c Text, d Int, e Int, f Text")
	d.hasViews("")
}

func TestP151MakeTableWithBadNames(t *testing.T) {
	for _, d := range []db{start(t), common(t)} {
		for _, name := range badNames {
			d.makeCols(name, cols("a Int"), "ErrName")
		}
	}
}

func TestP151MakeTableWithNamesThatAreTaken(t *testing.T) {
	d := common(t)
	for _, name := range []string{"t", "u", "v"} {
		d.makeCols(name, cols("z Text"), "ErrTaken")
		d.makeCols(name, cols("a Int, b Text"), "ErrTaken")
	}
	d.makeTable("tt: a Int", "OK")
	d.makeTable("vv: a Int", "OK")
	d.makeTable("tt: a Int", "ErrTaken")
}

// badCols are columns that no table has, with the error.
var badCols = []struct{ cols, want string }{
	{"", "ErrCount"},
	{"a Int, b Int, c Int, d Int, e Int, f Int, g Int", "ErrCount"},
	{"a Int, a Int, Q Int, d 7, e Int, f Int, g Int", "ErrCount"},
	{"A Int", "ErrName"},
	{" Int", "ErrName"},
	{"table Int", "ErrName"},
	{"qqqqqqqqqqqqq Int", "ErrName"},
	{"a 0", "ErrName"},
	{"a 3", "ErrName"},
	{"a -1", "ErrName"},
	{"a 257", "ErrName"},
	{"a Int, b 258", "ErrName"},
	{"a Int, b Int, c Int, d Int, e Int, f 3", "ErrName"},
	{"a Int, a Text", "ErrTaken"},
	{"a Int, b Int, c Int, d Int, e Int, a Int", "ErrTaken"},
	{"a Int, a 5", "ErrName"},
	{"a Int, a Int, b 5", "ErrTaken"},
	{"a Int, b 5, a Int", "ErrName"},
}

func TestP151MakeTableWithBadColumns(t *testing.T) {
	for _, d := range []db{start(t), common(t)} {
		for _, x := range badCols {
			d.makeCols("x", cols(x.cols), x.want)
		}
		d.makeCols("x", []api.Col{}, "ErrCount")
		d.makeCols("x", make([]api.Col, 10000), "ErrCount")
	}
}

func TestP151MakeTableInAFullCatalog(t *testing.T) {
	d := start(t)
	names := letters("t", api.MaxTables)
	for _, name := range names {
		d.makeTable(name+": a Int", "OK")
	}
	d.makeTable("x: a Int", "ErrFull")
	d.makeTable("a: a Int", "ErrFull")
	d.makeView("v", "(table tc)", "OK")
	d.makeTable("x: a Int", "ErrFull")
	d.dropTable("tb", "OK")
	d.makeTable("x: a Int", "OK")
	d.makeTable("tb: a Int", "ErrFull")
	// Views take no room of tables.
	d = start(t)
	d.makeTable("t: a Int", "OK")
	for _, name := range letters("v", api.MaxViews) {
		d.makeView(name, "(table t)", "OK")
	}
	for _, name := range names[1:] {
		d.makeTable(name+": a Int", "OK")
	}
	d.makeTable("x: a Int", "ErrFull")
}

// TestP151MakeTableWithTwoErrors has the first one told.
func TestP151MakeTableWithTwoErrors(t *testing.T) {
	d := start(t)
	for _, name := range letters("t", api.MaxTables) {
		d.makeTable(name+": a Int", "OK")
	}
	d.makeView("v", "(table ta)", "OK")
	for _, name := range badNames {
		d.makeCols(name, nil, "ErrName")
		d.makeCols(name, cols("a Int"), "ErrName")
		d.makeCols(name, cols("a Int, a Int"), "ErrName")
	}
	for _, x := range badCols {
		for _, name := range []string{"ta", "tf", "v"} {
			d.makeCols(name, cols(x.cols), "ErrTaken")
			d.makeCols(name, cols("a Int"), "ErrTaken")
		}
		d.makeCols("x", cols(x.cols), x.want)
	}
	d.makeCols("x", cols("a Int"), "ErrFull")
}

func TestP151DropTable(t *testing.T) {
	d := start(t)
	d.dropTable("t", "ErrName")
	for _, name := range []string{"c", "a", "d", "b"} {
		d.makeTable(name+": "+name+" Int", "OK")
	}
	d.dropTable("b", "OK")
	d.hasTables("a: a Int; c: c Int; d: d Int")
	d.dropTable("b", "ErrName")
	d.dropTable("a", "OK")
	d.hasTables("c: c Int; d: d Int")
	d.dropTable("d", "OK")
	d.hasTables("c: c Int")
	d.dropTable("c", "OK")
	d.hasTables("")
	d.dropTable("c", "ErrName")
}

func TestP151DropTableThatIsNotThere(t *testing.T) {
	d := common(t)
	for _, name := range append([]string{"x", "s", "tt", "v", "a", "zz"}, badNames...) {
		d.dropTable(name, "ErrName")
	}
}

func TestP151DropTableThatIsUsed(t *testing.T) {
	d := common(t)
	d.dropTable("t", "ErrUsed v")
	d.makeView("w", "(distinct (table u))", "OK")
	d.makeView("x", "(table t)", "OK")
	d.dropTable("t", "ErrUsed v")
	d.makeView("h", "(table t)", "OK")
	d.dropTable("t", "ErrUsed h")
	d.makeView("a", "(table u)", "OK")
	d.dropTable("t", "ErrUsed h")
	d.dropTable("u", "ErrUsed a")
	d.dropView("h", "OK")
	d.dropTable("t", "ErrUsed v")
	d.dropView("v", "OK")
	d.dropTable("t", "ErrUsed x")
	d.dropView("a", "OK")
	d.dropTable("u", "ErrUsed w")
	d.dropView("x", "OK")
	d.dropTable("t", "OK")
	d.dropTable("u", "ErrUsed w")
	d.dropView("w", "OK")
	d.dropTable("u", "OK")
	d.hasTables("")
}

// TestP151DropTableTellsTheLeastName makes the views in each order.
func TestP151DropTableTellsTheLeastName(t *testing.T) {
	for _, order := range []string{"abc", "acb", "bac", "bca", "cab", "cba"} {
		d := start(t)
		d.makeTable("t: a Int", "OK")
		for _, name := range order {
			d.makeView(string(name), "(table t)", "OK")
		}
		d.dropTable("t", "ErrUsed a")
		d.dropView("a", "OK")
		d.dropTable("t", "ErrUsed b")
		d.dropView("b", "OK")
		d.dropTable("t", "ErrUsed c")
		d.dropView("c", "OK")
		d.dropTable("t", "OK")
	}
	d := start(t)
	d.makeTable("t: a Int", "OK")
	d.makeView("ab", "(table t)", "OK")
	d.makeView("b", "(table t)", "OK")
	d.makeView("aab", "(table t)", "OK")
	d.dropTable("t", "ErrUsed aab")
	d.makeView("aa", "(table t)", "OK")
	d.dropTable("t", "ErrUsed aa")
}

// uses are plans that use the table t, which has the columns a Int and b Text: twice, or deep within.
var uses = []string{
	"(table t)",
	"(union (table t) (table t))",
	"(join (a) (a) (table t) (project (a a) (table t)))",
	"(filter 1 (table t))",
	"(project (x 5) (table t))",
	"(distinct (table t))",
	"(group () (n count) (table t))",
	"(join (a) (c) (table t) (table u))",
	"(join (c) (a) (table u) (table t))",
	"(union (project (x c) (table u)) (project (x a) (table t)))",
	"(union (project (x a) (table t)) (project (x c) (table u)))",
	"(distinct (distinct (distinct (distinct (distinct (distinct (distinct (distinct (distinct (distinct (distinct (table t))))))))))))",
	"(group () (n count) (join (c) (a) (table u) (union (table t) (filter (lt a 1) (distinct (table t))))))",
}

func TestP151DropTableUsedByEachKind(t *testing.T) {
	for _, s := range uses {
		d := common(t)
		d.dropView("v", "OK")
		d.makeView("w", s, "OK")
		d.dropTable("t", "ErrUsed w")
		if strings.Contains(s, "(table u)") {
			d.dropTable("u", "ErrUsed w")
		} else {
			d.dropTable("u", "OK")
		}
		d.dropView("w", "OK")
		d.dropTable("t", "OK")
	}
}

// TestP151NamesWithinPlans are no tables that a plan uses, be they those of columns, functions or texts.
func TestP151NamesWithinPlans(t *testing.T) {
	d := start(t)
	d.makeTable("t: x Int, y Text", "OK")
	for _, name := range []string{"x", "y", "z"} {
		d.makeTable(name+": t Int", "OK")
	}
	d.makeView("v", `(project (z x) (t "x") (filter (eq y "x") (table t)))`, "OK")
	d.makeView("w", "(group (x) (z count) (t max y) (table t))", "OK")
	for _, name := range []string{"x", "y", "z"} {
		d.hasUsers(name, "")
		d.dropTable(name, "OK")
	}
	d.hasUsers("t", "v w")
}

func TestP151MakeView(t *testing.T) {
	for _, s := range uses {
		d := common(t)
		d.makeView("w", s, "OK")
		if v := d.catalog.Views()[1]; v.Name != "w" || v.Text != s {
			t.Errorf("P15.2: the view %s: %s", s, v.Text)
		}
	}
	d := common(t)
	d.makeView(longName, "(table u)", "OK")
	d.makeView("a", "(group (b) (n count) (m sum a) (o max b) (table t))", "OK")
	d.hasViews("a: (group (b) (n count) (m sum a) (o max b) (table t)) b Text, n Int, m Int, o Text; " + longName + ": (table u) c Int, d Int; v: (table t) a Int, b Text")
	d.hasTables("t: a Int, b Text; u: c Int, d Int")
}

func TestP151MakeViewWithBadNames(t *testing.T) {
	d := common(t)
	for _, name := range badNames {
		d.makeView(name, "(table t)", "ErrName")
	}
}

func TestP151MakeViewWithNamesThatAreTaken(t *testing.T) {
	d := common(t)
	for _, name := range []string{"t", "u", "v"} {
		d.makeView(name, "(table t)", "ErrTaken")
		d.makeView(name, "(table u)", "ErrTaken")
	}
	d.makeView("vv", "(table t)", "OK")
	d.makeView("tt", "(table t)", "OK")
	d.makeView("vv", "(table t)", "ErrTaken")
	d.makeTable("w: a Int", "OK")
	d.makeView("w", "(table w)", "ErrTaken")
}

// longPlan returns a plan of so many bytes, as plan.Print writes it.
func longPlan(size int) string {
	const before, behind = `(filter (eq b "`, `") `
	s := "(table t)"
	for len(s) < size {
		n := min(size-len(s)-len(before+behind+")"), 3*api.MaxText)
		s = before + strings.Repeat("x", n%3) + strings.Repeat(`\00`, n/3) + behind + s + ")"
	}
	return s
}

// asLong is a plan of as many bytes as may be. Of tooLong only Print has more: it has itself no blanks that it does not need.
var asLong, tooLong = longPlan(api.MaxPlan), tight(longPlan(api.MaxPlan + 1))

// tight returns a plan without blanks between brackets.
func tight(s string) string { return strings.ReplaceAll(s, ") (", ")(") }

// badTexts are texts that are no plans, with the errors of plan.Read and their offsets.
var badTexts = []struct{ text, want string }{
	{"", "ErrEnd"},
	{"   ", "ErrEnd 3"},
	{"(", "ErrEnd 1"},
	{"(table t", "ErrEnd 8"},
	{`(filter (eq b "x`, "ErrEnd 16"},
	{")", "ErrForm"},
	{"(table T)", "ErrForm 7"},
	{"(table t) ;", "ErrForm 10"},
	{"(filter - (table t))", "ErrForm 8"},
	{`(filter (eq b "\x") (table t))`, "ErrForm 15"},
	{"(table t) (table t)", "ErrTail 10"},
	{"t", "ErrForm"},
	{" 5", "ErrForm 1"},
	{"()", "ErrForm"},
	{"(table 5)", "ErrForm"},
	{"(project (table t))", "ErrForm"},
	{"(union (table t))", "ErrForm"},
	{"(distinct (distinct a))", "ErrForm 20"},
	{"(group () (n avg a) (table t))", "ErrForm 13"},
	{"(table table)", "ErrName 7"},
	{"(table qqqqqqqqqqqqq)", "ErrName 7"},
	{"(union (table t) (table sum))", "ErrName 24"},
	{"(filter if (table t))", "ErrName 8"},
	{"(filter (add a) (table t))", "ErrCount 8"},
	{"(filter (add a (neg 1 2)) (table t))", "ErrCount 15"},
	{"(filter () (table t))", "ErrForm 8"},
	{strings.Repeat("(distinct ", api.MaxDeep) + "(table t)" + strings.Repeat(")", api.MaxDeep), "ErrDeep 120"},
	{"(filter (eq b \"" + strings.Repeat("x", api.MaxText+1) + "\") (table t))", "ErrLong 14"},
	{"(table t)" + strings.Repeat(" ", api.MaxPlan), "ErrLong"},
	{strings.Repeat("x", 1<<20), "ErrLong"},
	{tooLong, "ErrLong"},
}

func TestP151MakeViewOfTextsThatAreNoPlans(t *testing.T) {
	if len(tooLong) > api.MaxPlan || len(asLong) != api.MaxPlan {
		t.Fatalf("texts of %d and %d bytes", len(tooLong), len(asLong))
	}
	d := common(t)
	for _, x := range badTexts {
		d.makeView("w", x.text, x.want)
	}
	d.makeView("w", asLong, "OK")
	d.makeView("x", "(table t)"+strings.Repeat(" ", api.MaxPlan-len("(table t)")), "OK")
	d.makeView("y", strings.Repeat("(distinct ", api.MaxDeep-1)+"(table t)"+strings.Repeat(")", api.MaxDeep-1), "OK")
}

// badPlans are plans that have no columns where t has the columns a Int and b Text, u has c Int and d Int, and v is a view, with the errors of check.Out and their names.
var badPlans = []struct{ text, want string }{
	{"(table x)", "ErrName x"},
	{"(table v)", "ErrName v"},
	{"(table w)", "ErrName w"},
	{"(distinct (union (table t) (table v)))", "ErrName v"},
	{"(union (table y) (table x))", "ErrName y"},
	{"(join () () (table t) (table x))", "ErrName x"},
	{"(filter x (table t))", "ErrName"},
	{"(filter c (table t))", "ErrName"},
	{"(filter b (table t))", "ErrType"},
	{"(filter (add a b) (table t))", "ErrType"},
	{"(project (x x) (table t))", "ErrName"},
	{"(project (x a) (y b) (x b) (table t))", "ErrTaken x"},
	{"(project (q a) (r a) (s a) (t a) (u a) (v a) (w a) (table t))", "ErrCount"},
	{"(join () () (table t) (table u))", "ErrCount"},
	{"(join (a) (c d) (table t) (table u))", "ErrCount"},
	{"(join (x) (y) (table t) (table u))", "ErrName x"},
	{"(join (a) (y) (table t) (table u))", "ErrName y"},
	{"(join (a a) (c d) (table t) (table u))", "ErrTaken a"},
	{"(join (b) (c) (table t) (table u))", "ErrType b"},
	{"(join (a) (a) (table t) (table t))", "ErrTaken b"},
	{"(union (table t) (project (x a) (table t)))", "ErrCount"},
	{"(union (table u) (table t))", "ErrType d"},
	{"(group (x) (table t))", "ErrName x"},
	{"(group (a a) (table t))", "ErrTaken a"},
	{"(group (a) (a count) (table t))", "ErrTaken a"},
	{"(group (a) (n sum b) (table t))", "ErrType b"},
	{"(group () (n min x) (table t))", "ErrName x"},
	{"(group () (table t))", "ErrCount"},
	{"(group () (q count) (r count) (s count) (x count) (y count) (z count) (w count) (table t))", "ErrCount"},
}

func TestP151MakeViewOfPlansWithoutColumns(t *testing.T) {
	d := common(t)
	for _, x := range badPlans {
		d.makeView("w", x.text, x.want)
	}
	// There is nothing in an empty catalog.
	d = start(t)
	for _, x := range badPlans {
		want := "ErrName t"
		if _, name, _ := strings.Cut(x.text, "(table "); name[0] != 't' {
			want = "ErrName " + name[:1]
		}
		d.makeView("w", x.text, want)
	}
	// A plan may use what was made since, but not what was dropped.
	d.makeTable("x: a Int", "OK")
	d.makeView("w", "(table x)", "OK")
	d.dropView("w", "OK")
	d.dropTable("x", "OK")
	d.makeView("w", "(table x)", "ErrName x")
}

func TestP151MakeViewInAFullCatalog(t *testing.T) {
	d := start(t)
	for _, name := range letters("t", api.MaxTables) {
		d.makeTable(name+": a Int", "OK")
	}
	for _, name := range letters("v", api.MaxViews) {
		d.makeView(name, "(table ta)", "OK")
	}
	d.makeView("x", "(table ta)", "ErrFull")
	d.makeView("a", "(table tf)", "ErrFull")
	d.dropTable("tf", "OK")
	d.makeView("x", "(table ta)", "ErrFull")
	d.dropView("vc", "OK")
	d.makeView("x", "(table ta)", "OK")
	d.makeView("vc", "(table ta)", "ErrFull")
	d.makeTable("vc: a Int", "OK")
}

// TestP151MakeViewWithTwoErrors has the first one told.
func TestP151MakeViewWithTwoErrors(t *testing.T) {
	d := common(t)
	full := common(t)
	for _, name := range letters("v", api.MaxViews-1) {
		full.makeView(name, "(table u)", "OK")
	}
	full.makeView("w", "(table t)", "ErrFull")
	for _, d := range []db{d, full} {
		for _, x := range badTexts {
			d.makeView("A", x.text, "ErrName")
			d.makeView("union", x.text, "ErrName")
			d.makeView("t", x.text, "ErrTaken")
			d.makeView("v", x.text, "ErrTaken")
			d.makeView("w", x.text, x.want)
		}
		for _, x := range badPlans {
			d.makeView("", x.text, "ErrName")
			d.makeView("u", x.text, "ErrTaken")
			d.makeView("v", x.text, "ErrTaken")
			d.makeView("w", x.text, x.want)
		}
		d.makeView("w", "(union (table x) (table 5))", "ErrForm 17")
		d.makeView("w", "(union (filter b (table t)) (table x))", "ErrType")
	}
	for _, name := range badNames {
		full.makeView(name, "(table t)", "ErrName")
	}
	full.makeView("u", "(table t)", "ErrTaken")
	full.makeView("va", "(table t)", "ErrTaken")
}

func TestP151DropView(t *testing.T) {
	d := common(t)
	d.makeView("a", "(table t)", "OK")
	d.makeView("x", "(table u)", "OK")
	d.makeView("m", "(distinct (table t))", "OK")
	d.dropView("m", "OK")
	d.hasViews("a: (table t) a Int, b Text; v: (table t) a Int, b Text; x: (table u) c Int, d Int")
	d.dropView("m", "ErrName")
	d.dropView("x", "OK")
	d.dropView("a", "OK")
	d.hasViews("v: (table t) a Int, b Text")
	d.dropView("v", "OK")
	d.hasViews("")
	d.dropView("v", "ErrName")
	d.hasTables("t: a Int, b Text; u: c Int, d Int")
}

func TestP151DropViewThatIsNotThere(t *testing.T) {
	start(t).dropView("v", "ErrName")
	d := common(t)
	for _, name := range append([]string{"t", "u", "a", "w", "vv"}, badNames...) {
		d.dropView(name, "ErrName")
	}
}

// TestP151DroppedNames are used again, as the same thing and as the other.
func TestP151DroppedNames(t *testing.T) {
	d := common(t)
	d.dropView("v", "OK")
	d.makeView("v", "(table u)", "OK")
	d.hasViews("v: (table u) c Int, d Int")
	d.dropTable("t", "OK")
	d.makeTable("t: x Text", "OK")
	d.dropTable("t", "OK")
	d.makeView("t", "(project (x c) (table u))", "OK")
	d.makeTable("t: x Text", "ErrTaken")
	d.dropTable("t", "ErrName")
	d.dropView("v", "OK")
	d.makeTable("v: y Text", "OK")
	d.makeView("v", "(table u)", "ErrTaken")
	d.dropView("v", "ErrName")
	d.makeView("w", "(table v)", "OK")
	d.makeView("x", "(table t)", "ErrName t")
	d.hasTables("u: c Int, d Int; v: y Text")
	d.hasViews("t: (project (x c) (table u)) x Int; w: (table v) y Text")
	d.hasUsers("u", "t")
	d.hasUsers("v", "w")
	d.hasUsers("t", "")
	d.dropView("w", "OK")
	d.dropTable("v", "OK")
	d.dropTable("u", "ErrUsed t")
	d.makeView("v", "(table u)", "OK")
	d.dropTable("u", "ErrUsed t")
	d.dropView("t", "OK")
	d.makeTable("t: a Int", "OK")
	d.makeView("w", "(union (table t) (table t))", "OK")
	d.hasTables("t: a Int; u: c Int, d Int")
	d.hasViews("v: (table u) c Int, d Int; w: (union (table t) (table t)) a Int")
}

// TestP151AnotherTableOfAName is what a plan uses that is made behind it.
func TestP151AnotherTableOfAName(t *testing.T) {
	d := common(t)
	d.makeView("w", "(filter b (table t))", "ErrType")
	d.dropView("v", "OK")
	d.dropTable("t", "OK")
	d.makeTable("t: b Int", "OK")
	d.makeView("w", "(filter b (table t))", "OK")
	d.makeView("v", "(table t)", "OK")
	d.hasViews("v: (table t) b Int; w: (filter b (table t)) b Int")
}
