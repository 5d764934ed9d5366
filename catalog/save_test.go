package catalog_test

import (
	"bytes"
	"math/rand"
	"slices"
	"strings"
	"testing"

	"confluence/api"
	"confluence/catalog"
	"confluence/check"
	"confluence/wire"
)

// loaded returns the catalog that d is when it is saved and loaded.
func (d db) loaded() db {
	d.t.Helper()
	before := d.state()
	b := d.catalog.Save()
	c, why := catalog.Load(b)
	if why != api.OK || c == nil {
		d.t.Fatalf("P15.2: Load of Save of %s: %v, %s", before, c, showErr(why))
	}
	x := db{d.t, c}
	if x.state() != before || d.state() != before {
		d.t.Fatalf("P15.2: %s is loaded as %s", before, x.state())
	}
	if !bytes.Equal(c.Save(), b) || !bytes.Equal(d.catalog.Save(), b) {
		d.t.Errorf("P15.2: %s is saved in several ways", before)
	}
	return x
}

// full is a catalog of as many tables and views as may be, of the longest names and texts.
func full(t *testing.T) db {
	t.Helper()
	d := start(t)
	names := letters(longName[1:], api.MaxTables)
	for i, name := range names {
		var l []string
		for k, col := range letters(longName[1:], api.MaxCols) {
			l = append(l, col+" "+[]string{"Int", "Text"}[(i+k)%2])
		}
		d.makeTable(name+": "+strings.Join(l, ", "), "OK")
	}
	d.dropTable(names[0], "OK")
	d.makeTable(names[0]+": b Text", "OK")
	asLong := strings.Replace(longPlan(api.MaxPlan-len(names[0])+1), "(table t)", "(table "+names[0]+")", 1)
	for i, name := range letters(longName[:api.MaxName-2]+"v", api.MaxViews) {
		text := asLong
		if i%2 > 0 {
			text = "(table " + names[i] + ")"
		}
		d.makeView(name, text, "OK")
	}
	if n := len(d.catalog.Views()[0].Text); n != api.MaxPlan {
		t.Fatalf("a view's text has %d bytes", n)
	}
	return d
}

// some are catalogs of several sizes.
func some(t *testing.T) []db {
	t.Helper()
	table, tables := start(t), start(t)
	table.makeTable("t: a Int", "OK")
	for _, name := range letters("t", api.MaxTables) {
		tables.makeTable(name+": "+name+" Text, a Int", "OK")
	}
	views := common(t)
	views.makeView("x", `(filter (eq b "\\\22\00") (table t))`, "ErrForm 15")
	views.makeView("x", `(filter (eq b "\5c\22\00") (table t))`, "OK")
	views.makeView("a", "(group (a) (n count) (table t))", "OK")
	return []db{start(t), table, tables, common(t), views, full(t)}
}

func TestP152SavedAndLoaded(t *testing.T) {
	for _, d := range some(t) {
		d.loaded().loaded()
	}
	d := full(t).loaded()
	d.makeTable("x: a Int", "ErrFull")
	d.makeView("x", "(table "+longName+")", "ErrName "+longName)
	d.makeView("x", "(table "+longName[1:]+"a)", "ErrFull")
	d.dropTable(longName[1:]+"b", "ErrUsed "+longName[:api.MaxName-2]+"vb")
	d.dropTable(longName[1:]+"c", "OK")
	d.makeTable("x: a Int", "OK")
	d = start(t).loaded()
	d.hasTables("")
	d.hasViews("")
	d.makeView("v", "(table t)", "ErrName t")
	d.makeTable("t: a Int", "OK")
	d.makeView("v", "(table t)", "OK")
}

func TestP152SavedAndLoadedGoTheirOwnWays(t *testing.T) {
	d := common(t)
	before, b := d.state(), d.catalog.Save()
	x, y := d.loaded(), d.loaded()
	x.dropView("v", "OK")
	x.dropTable("t", "OK")
	x.makeTable("a: b Int", "OK")
	x.makeView("t", "(table a)", "OK")
	if d.state() != before || y.state() != before || !bytes.Equal(d.catalog.Save(), b) {
		t.Fatalf("P15.2: a loaded catalog turned another one: %s, %s", d.state(), y.state())
	}
	was := x.state()
	d.makeView("w", "(distinct (table u))", "OK")
	d.dropView("v", "OK")
	d.dropTable("t", "OK")
	d.makeTable("zz: z Int", "OK")
	if x.state() != was || y.state() != before {
		t.Fatalf("P15.2: a saved catalog turned a loaded one: %s, %s", x.state(), y.state())
	}
	y.hasTables("t: a Int, b Text; u: c Int, d Int")
	y.hasViews("v: (table t) a Int, b Text")
	x.hasTables("a: b Int; u: c Int, d Int")
	x.hasViews("t: (table a) b Int")
	d.hasTables("u: c Int, d Int; zz: z Int")
	d.hasViews("w: (distinct (table u)) c Int, d Int")
	x.loaded()
	y.loaded()
	d.loaded()
}

// TestP152SameCatalogReachedInOtherWays has the same bytes: engine promises as much of whole databases.
func TestP152SameCatalogReachedInOtherWays(t *testing.T) {
	direct := common(t)
	direct.makeView("x", "(distinct (table u))", "OK")
	direct.makeTable("a: z Text", "OK")
	around := start(t)
	around.makeTable("b: a Int", "OK")
	around.makeTable("u: a Int", "OK")
	around.makeView("v", "(table u)", "OK")
	around.makeView("t", "(table b)", "OK")
	around.dropView("v", "OK")
	around.dropTable("u", "OK")
	around.makeTable("a: z Text", "OK")
	around.makeView("x", "(table a)", "OK")
	around = around.loaded()
	around.makeTable("a: z Text", "ErrTaken")
	around.makeTable("u: c Int, d Int", "OK")
	around.dropView("t", "OK")
	around.makeView("x", "(table a)", "ErrTaken")
	around.dropView("x", "OK")
	around.makeView("x", " ( distinct(table u)\n) ", "OK")
	around.makeTable("t: a Int, b Text", "OK")
	around.dropTable("u", "ErrUsed x")
	around.makeView("v", "(table\nt)", "OK")
	around.dropTable("b", "OK")
	emptied := common(t)
	emptied.dropView("v", "OK")
	emptied.dropTable("t", "OK")
	emptied.dropTable("u", "OK")
	for _, x := range [][2]db{{direct, around}, {direct.loaded(), around.loaded()}, {start(t), emptied}, {emptied.loaded(), start(t).loaded()}} {
		if x[0].state() != x[1].state() || !bytes.Equal(x[0].catalog.Save(), x[1].catalog.Save()) {
			t.Errorf("P15.2: %s, not %s", x[1].state(), x[0].state())
		}
	}
}

// notLoaded checks that Load answers nothing.
func notLoaded(t *testing.T, b []byte) {
	t.Helper()
	if c, why := catalog.Load(b); c != nil || why != api.ErrForm {
		t.Errorf("P15.2: Load of %q: %v, %s", b, c, showErr(why))
	}
}

// loads checks that Load answers a catalog of which b is the result of Save, or nothing, and returns whether it is one.
func loads(t *testing.T, b []byte) bool {
	t.Helper()
	c, why := catalog.Load(b)
	if why != api.OK {
		notLoaded(t, b)
		return false
	}
	if c == nil || !bytes.Equal(c.Save(), b) {
		t.Fatalf("P15.2: Load of %q: %v", b, c)
	}
	// There is a catalog as this one that was made call by call.
	d := start(t)
	for _, x := range c.Tables() {
		d.catalog.MakeTable(x.Name, x.Cols)
	}
	for _, v := range c.Views() {
		d.catalog.MakeView(v.Name, v.Text)
	}
	if x := (db{t, c}); x.state() != d.state() || !bytes.Equal(d.catalog.Save(), b) {
		t.Fatalf("P15.2: Load of %q: %s, not %s", b, x.state(), d.state())
	}
	return true
}

func TestP152LoadOfNoBytes(t *testing.T) {
	loads(t, nil)
	loads(t, []byte{})
	loads(t, make([]byte, 0, 20))
	if len(start(t).catalog.Save()) > 0 {
		notLoaded(t, nil)
		notLoaded(t, []byte{})
	}
}

func TestP152LoadOfBytesCutShort(t *testing.T) {
	for _, d := range some(t) {
		b := d.catalog.Save()
		for n := range b {
			notLoaded(t, b[:n])
			loads(t, b[n:])
		}
	}
}

func TestP152LoadOfBytesWithMoreBehind(t *testing.T) {
	for _, d := range some(t) {
		b := d.catalog.Save()
		for more := range 256 {
			notLoaded(t, append(slices.Clone(b), byte(more)))
		}
		notLoaded(t, append(slices.Clone(b), 0, 0))
		notLoaded(t, append(slices.Clone(b), b...))
		notLoaded(t, append(slices.Clone(b), make([]byte, 1000)...))
		loads(t, append([]byte{0}, b...))
	}
}

func TestP152LoadOfBytesThatAreChanged(t *testing.T) {
	good := 0
	for _, d := range some(t) {
		b := d.catalog.Save()
		changes := []byte{1, 2, 3, 4, 8, 15, 16, 32, 64, 127, 128, 255}
		if len(b) > 1000 {
			changes = changes[:2]
		}
		for at := range b {
			for _, change := range changes {
				turned := slices.Clone(b)
				turned[at] ^= change
				if loads(t, turned) {
					good++
				}
			}
		}
	}
	if good == 0 {
		t.Error("no change made another catalog")
	}
}

func TestP152LoadOfOtherBytes(t *testing.T) {
	r := rand.New(rand.NewSource(152))
	all := some(t)
	for range 4000 {
		b := all[r.Intn(len(all))].catalog.Save()
		for range 1 + r.Intn(3) {
			at := r.Intn(len(b) + 1)
			switch r.Intn(3) {
			case 0:
				b = slices.Insert(b, at, byte(r.Intn(256)))
			case 1:
				b = slices.Delete(b, at, min(at+1+r.Intn(12), len(b)))
			default:
				from := r.Intn(len(b) + 1)
				b = slices.Insert(b, at, slices.Clone(b[from:min(from+r.Intn(30), len(b))])...)
			}
		}
		loads(t, b)
		b = make([]byte, r.Intn(24))
		for i := range b {
			b[i] = []byte{0, 1, 2, 3, 'a', 'b', 255}[r.Intn(7)]
		}
		loads(t, b)
	}
	loads(t, bytes.Repeat([]byte{255}, 1<<16))
	loads(t, make([]byte, 1<<16))
	loads(t, bytes.Repeat([]byte{1, 0}, 1<<16))
}

// written returns the bytes of a catalog of these tables and views, be it one that there can be or not.
func written(tables []check.Def, views []catalog.View) []byte {
	w := wire.NewWriter()
	w.Byte(len(tables))
	for _, d := range tables {
		w.Text(d.Name)
		w.Byte(len(d.Cols))
		for _, c := range d.Cols {
			w.Text(c.Name)
			w.Byte(c.Kind)
		}
	}
	w.Byte(len(views))
	for _, v := range views {
		w.Text(v.Name)
		w.Text(v.Text)
	}
	return w.Done()
}

// content returns the tables and views that a text like "t: a Int; u: b Int | v: (table t); w: (table u)" tells.
func content(s string) ([]check.Def, []catalog.View) {
	var tables []check.Def
	var views []catalog.View
	left, right, _ := strings.Cut(s, "| ")
	for _, x := range strings.FieldsFunc(left, func(r rune) bool { return r == ';' }) {
		name, rest, _ := strings.Cut(strings.TrimSpace(x), ": ")
		tables = append(tables, check.Def{Name: name, Cols: cols(rest)})
	}
	for _, x := range strings.FieldsFunc(right, func(r rune) bool { return r == ';' }) {
		name, text, _ := strings.Cut(strings.TrimPrefix(x, " "), ": ")
		views = append(views, catalog.View{Name: name, Text: text})
	}
	return tables, views
}

// TestP152LoadOfWhatNoCatalogHas loads bytes that have the form of Save, with definitions that no catalog has. That the form is the one of Save is asked first.
func TestP152LoadOfWhatNoCatalogHas(t *testing.T) {
	for _, d := range some(t) {
		if b := written(d.catalog.Tables(), d.catalog.Views()); !bytes.Equal(d.catalog.Save(), b) {
			t.Fatalf("%s is saved as %q, not %q", d.state(), d.catalog.Save(), b)
		}
	}
	for _, good := range []string{"", "t: a Int", "t: a Int | v: (table t)", "a: b Text; b: b Int | c: (table b); d: (table a)", "t: a Int | u: (table t); v: (table t); w: (table t)"} {
		if b := written(content(good)); !loads(t, b) {
			t.Errorf("P15.2: Load of %q: nothing", b)
		}
	}
	for _, bad := range []string{
		"t: a Int; t: a Int",
		"t: a Int; t: b Int | v: (table t)",
		"u: a Int; t: a Int",
		"t: a Int; u: a Int; ta: a Int",
		"a: a Int; b: a Int; c: a Int; d: a Int; e: a Int; f: a Int; g: a Int",
		"a: a Int; b: a Int; c: a Int; d: a Int; e: a Int; f: a Int; g: a Int | v: (table a)",
		": a Int",
		"T: a Int",
		"table: a Int",
		"qqqqqqqqqqqqq: a Int",
		"t: ",
		"t:  | v: (table t)",
		"t: a Int, b Int, c Int, d Int, e Int, f Int, g Int",
		"t: a Int, a Int",
		"t: A Int",
		"t: sum Int",
		"t: qqqqqqqqqqqqq Int",
		"t: a 0",
		"t: a 3",
		"t: a 255",
		"| v: (table t)",
		"t: a Int | v: (table u)",
		"t: a Int | v: (table v)",
		"t: a Int | v: (table t); w: (table v)",
		"t: a Int | t: (table t)",
		"t: a Int | v: (table t); v: (table t)",
		"t: a Int | w: (table t); v: (table t)",
		"t: a Int | : (table t)",
		"t: a Int | V: (table t)",
		"t: a Int | union: (table t)",
		"t: a Int | qqqqqqqqqqqqq: (table t)",
		"t: a Int | a: (table t); b: (table t); c: (table t); d: (table t); e: (table t); f: (table t); g: (table t)",
		"t: a Int | v: ",
		"t: a Int | v: (table t",
		"t: a Int | v: (table t) ",
		"t: a Int | v:  (table t)",
		"t: a Int | v: (table  t)",
		"t: a Int | v: (distinct(table t))",
		"t: a Int | v: (filter (lt a 05) (table t))",
		"t: a Int | v: (filter (lt a -0) (table t))",
		"t: a Int | v: (filter (eq \"\\41\" \"\") (table t))",
		"t: a Int | v: (table 5)",
		"t: a Int | v: (filter b (table t))",
		"t: a Text | v: (filter a (table t))",
		"t: b Text | v: " + longPlan(api.MaxPlan+1),
		"t: b Text | v: " + tight(longPlan(api.MaxPlan)),
	} {
		notLoaded(t, written(content(bad)))
	}
	if b := written(content("t: b Text | v: " + asLong)); !loads(t, b) {
		t.Error("P15.2: the longest text is not loaded")
	}
	// Numbers of tables, columns and views that are not those.
	b := written(content("t: a Int, b Int | v: (table t)"))
	for n := range 256 {
		for _, at := range []int{0, 4, 13} {
			turned := slices.Clone(b)
			if int(b[at]) != n {
				turned[at] = byte(n)
				notLoaded(t, turned)
			}
		}
	}
}
