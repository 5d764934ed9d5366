package batch_test

import (
	"fmt"
	"math"
	"slices"
	"strings"
	"testing"

	"confluence/api"
	"confluence/batch"
	"confluence/eval"
)

// badTables are not valid, each in another way.
func badTables() []struct {
	what string
	l    []eval.Table
} {
	type bad = struct {
		what string
		l    []eval.Table
	}
	l := []bad{
		{"a name twice", tables("t(a Int) | t(a Int)")},
		{"a name twice, with another between", tables("t(a Int) | u(a Int) | t(b Text)")},
		{"a column twice", tables("t(a Int, a Int)")},
		{"no columns", tables("t()")},
		{"no columns in the second", tables("t(a Int) | u()")},
		{"too many columns", tables("t(a Int, b Int, c Int, d Int, e Int, f Int, g Int)")},
		{"a Kind 0", tables("t(a 0)")},
		{"a Kind 3", tables("t(a 3)")},
		{"a Kind below 0", tables("t(a -1)")},
		{"a row that is too short", tables("t(a Int, b Int) 1")},
		{"a row that is too long", tables("t(a Int) 1 2")},
		{"a number for a text", tables("t(b Text) 1")},
		{"a text for a number", tables("t(a Int) 'x'")},
		{"a row that does not fit, in the second", tables("t(a Int) | u(a Int) 'x'")},
		{"a row without values", []eval.Table{{Name: "t", Cols: table("t(a Int)").Cols, Rows: api.Set{{T: 1}}}}},
		{"a text too long", tables("t(b Text) '" + longest + "z'")},
		{"a value with both", []eval.Table{{Name: "t", Cols: table("t(a Int)").Cols, Rows: api.Set{{Row: api.Row{{Kind: api.Int, N: 1, S: "x"}}, T: 1}}}}},
		{"rows in another order", tables("t(a Int) 2; 1")},
		{"rows in another order, behind others", tables("t(a Int) 1; 2; 4; 3")},
		{"a row that comes twice", tables("t(a Int) 1; 1")},
		{"a row less than no times", tables("t(a Int) 1 *-1")},
		{"a row less than no times behind others", tables("t(a Int) 1; 2 *-1; 3")},
		{"a row no times", tables("t(a Int) 1 *0")},
	}
	for _, name := range []string{"", longName + "q", "T", "a1", "a b", "table", "count", "if"} {
		l = append(l, bad{"the name " + name, tables(name + "(a Int)")}, bad{"the column " + name, tables("t(" + name + " Int)")})
		l = append(l, bad{"the second name " + name, tables("t(a Int) | " + name + "(a Int)")})
	}
	for _, c := range []complex128{complex(3, 1), complex(1, 1), 0, 1i, -1, complex(0.5, 0), complex(math.NaN(), 0), complex(1, math.NaN()), complex(math.Inf(1), 0), complex(1, math.Inf(-1)), complex(1<<50+1, 0), complex(1<<51, 0)} {
		l = append(l, bad{fmt.Sprint("the tally ", c), []eval.Table{{Name: "t", Cols: table("t(a Int)").Cols, Rows: api.Set{{Row: api.Row{num(1)}, T: c}}}}})
	}
	return l
}

func many(s string, n int) string { return strings.TrimSuffix(strings.Repeat(s+"; ", n), "; ") }

// TestP161Tables has tables that aren't valid beside changes that are right and such as have errors of their own.
func TestP161Tables(t *testing.T) {
	for _, x := range badTables() {
		if eval.Right(x.l) {
			t.Fatalf("%s: the tables are valid", x.what)
		}
		for _, c := range []string{"+t 1", "-t 1", "", many("+t 1", 8), many("+t 1", 9), "+u 1", "+nothing 1", "+t 'x'", "-t 2"} {
			if got := told(batch.Apply(x.l, changes(c))); got != "ErrArg 0" {
				t.Errorf("P16.1: %s, %s: %s, want ErrArg 0", x.what, c, got)
			}
		}
	}
}

// TestP161Number has numbers of changes that may not be, with and without tables and beside changes that are wrong themselves.
func TestP161Number(t *testing.T) {
	for _, l := range []string{"", "t(a Int)", "t(a Int) 1 *64", "t(a Int) | u(b Int)"} {
		applies(t, tables(l), nil, "ErrArg 0")
		applies(t, tables(l), []api.Change{}, "ErrArg 0")
		for _, n := range []int{9, 10, 17, 256, 264, 1000} {
			for _, c := range []string{"+t 1", "-t 1", "+nothing 1", "+t 'x'", "-t 5"} {
				applies(t, tables(l), changes(many(c, n)), "ErrMany 0")
			}
		}
	}
	applies(t, tables("t(a Int)"), changes(many("+t 1", 8)), "t(a Int) 1 *8 => t: 1 *8")
	applies(t, tables("t(a Int)"), changes(many("+t 1", 7)+"; -t 2"), "ErrAbsent 7")
	applies(t, tables("t(a Int)"), changes(many("+t 1", 8)+"; -t 2"), "ErrMany 0")
	applies(t, nil, changes("+t 1"), "ErrName 0")
	applies(t, []eval.Table{}, changes("-t 1; +t 2"), "ErrName 0")
}

// full has MaxRows rows, one of them twice.
func full() string {
	var l []string
	for i := range 62 {
		l = append(l, fmt.Sprint(i+1))
	}
	return "t(a Int) " + strings.Join(l, "; ") + "; 99 *2"
}

// refused are single changes and why they can't be applied.
var refused = []struct{ tables, change, want string }{
	// No such table.
	{"t(a Int)", "+u 1", "ErrName"},
	{"t(a Int)", "-u 1", "ErrName"},
	{"t(a Int)", "+ 1", "ErrName"},
	{"t(a Int)", "+T 1", "ErrName"},
	{"t(a Int)", "+tt 1", "ErrName"},
	{"tt(a Int)", "+t 1", "ErrName"},
	{"t(a Int)", "+a 1", "ErrName"},
	{"t(a Int)", "+table 1", "ErrName"},
	{"t(a Int)", "+t\x00 1", "ErrName"},
	{"t(a Int) | v(a Int)", "+u 1", "ErrName"},
	// The row does not fit.
	{"t(a Int)", "+t", "ErrType"},
	{"t(a Int)", "-t", "ErrType"},
	{"t(a Int)", "+t 1 2", "ErrType"},
	{"t(a Int) 1", "-t 1 2", "ErrType"},
	{"t(a Int, b Text)", "+t 1", "ErrType"},
	{"t(a Int, b Text) 1 'x'", "-t 1", "ErrType"},
	{"t(a Int, b Text)", "+t 1 'x' 2", "ErrType"},
	{"t(a Int, b Text)", "+t 1 'x' 1 2 3 4 5", "ErrType"},
	{"t(a Int, b Text)", "+t 'x' 1", "ErrType"},
	{"t(a Int, b Text)", "+t 1 2", "ErrType"},
	{"t(a Int, b Text)", "+t 'x' 'x'", "ErrType"},
	{"t(a Int)", "+t 'x'", "ErrType"},
	{"t(a Int)", "-t 'x'", "ErrType"},
	{"t(b Text)", "+t 1", "ErrType"},
	{"t(b Text)", "+t '" + longest + "z'", "ErrType"},
	{"t(b Text)", "-t '" + longest + "z'", "ErrType"},
	{"t(a Int) | u(b Text)", "+u 1", "ErrType"},
	{"t(a Int) | u(b Text)", "+t 'x'", "ErrType"},
	{"t(a Int, b Int, c Int, d Int, e Int, f Int)", "+t 1 2 3 4 5 'x'", "ErrType"},
	// The row is not there.
	{"t(a Int)", "-t 1", "ErrAbsent"},
	{"t(a Int) 1; 3", "-t 2", "ErrAbsent"},
	{"t(a Int) 1", "-t -1", "ErrAbsent"},
	{"t(a Int, b Text) 1 'x'", "-t 1 'y'", "ErrAbsent"},
	{"t(a Int, b Text) 1 'x'", "-t 2 'x'", "ErrAbsent"},
	{"t(a Int, b Text) 1 'x'", "-t 1 ''", "ErrAbsent"},
	{"t(a Int) | u(a Int) 1", "-t 1", "ErrAbsent"},
	{"t(a Int) 1 | u(a Int)", "-u 1", "ErrAbsent"},
	{"t(a Int) 1 *64", "-t 2", "ErrAbsent"},
	// The table is full, in one row and in many.
	{"t(a Int) 1 *64", "+t 1", "ErrFull"},
	{"t(a Int) 1 *64", "+t 2", "ErrFull"},
	{"t(a Int) 1 *63; 2", "+t 1", "ErrFull"},
	{"t(a Int) 1 *63; 2", "+t 3", "ErrFull"},
	{"t(a Int) 1 *32; 2 *32", "+t 0", "ErrFull"},
	{full(), "+t 1", "ErrFull"},
	{full(), "+t 63", "ErrFull"},
	{full(), "+t 99", "ErrFull"},
	{"t(a Int) | u(a Int) 1 *64", "+u 1", "ErrFull"},
	// Two errors of one change: the first counts.
	{"t(a Int) 1 *64", "+u 'x'", "ErrName"},
	{"t(a Int) 1 *64", "+u", "ErrName"},
	{"t(a Int) 1 *64", "+t 'x'", "ErrType"},
	{"t(a Int) 1 *64", "+t", "ErrType"},
	{"t(a Int) 1 *64", "-t 1 1", "ErrType"},
}

// TestP161Refused has each of these alone and, with its index, behind and before changes that can be applied to another table.
func TestP161Refused(t *testing.T) {
	for _, x := range refused {
		applies(t, tables(x.tables), changes(x.change), x.want+" 0")
		l := append(tables(x.tables), table("zz(a Int) 5"))
		for n := range 8 {
			c := slices.Concat(changes("+zz 1; -zz 5; +zz 2; +zz 2; -zz 1; +zz 3; -zz 2")[:n], changes(x.change))
			applies(t, l, c, fmt.Sprint(x.want, " ", n))
			applies(t, l, append(c, changes("+zz 1; +zz 2; +zz 3; +zz 4; +zz 1; +zz 6; +zz 7")[n:]...), fmt.Sprint(x.want, " ", n))
		}
	}
}

// TestP161Values has rows that no text tells.
func TestP161Values(t *testing.T) {
	for _, v := range []api.Value{{}, {Kind: 0, N: 1}, {Kind: 3, N: 1}, {Kind: -1, N: 1}, {Kind: 257, N: 1}, {Kind: api.Int, N: 1, S: "x"}, {Kind: api.Text, N: 1, S: "x"}, {Kind: api.Text, N: 1}} {
		for _, remove := range []bool{false, true} {
			for _, l := range []string{"t(a Int) 1", "t(b Text) 'x'", "t(a Int) 1 *64"} {
				applies(t, tables(l), []api.Change{{Table: "t", Row: api.Row{v}, Remove: remove}}, "ErrType 0")
			}
		}
	}
	for _, r := range []api.Row{nil, {}} {
		applies(t, tables("t(a Int) 1"), []api.Change{{Table: "t", Row: r}}, "ErrType 0")
		applies(t, tables("t(a Int) 1"), []api.Change{{Table: "t", Row: r, Remove: true}}, "ErrType 0")
	}
	applies(t, tables("t(a Int) 1"), []api.Change{{}}, "ErrName 0")
}

// inOrder are changes of which one can't be applied for what those before it did, or did not.
var inOrder = []struct{ tables, changes, want string }{
	// A row that was there and was removed before, and one that comes only later.
	{"t(a Int) 1", "-t 1; -t 1", "ErrAbsent 1"},
	{"t(a Int) 1 *2", "-t 1; -t 1; -t 1", "ErrAbsent 2"},
	{"t(a Int) 1 *7", many("-t 1", 8), "ErrAbsent 7"},
	{"t(a Int)", "-t 1; +t 1", "ErrAbsent 0"},
	{"t(a Int)", "+t 2; -t 1; +t 1", "ErrAbsent 1"},
	{"t(a Int) 1", "-t 1; -t 1; +t 1", "ErrAbsent 1"},
	{"t(a Int)", "+t 1; -t 1; -t 1", "ErrAbsent 2"},
	{"t(a Int) 1", "+t 1; -t 1; -t 1; -t 1", "ErrAbsent 3"},
	{"t(a Int) 1 | u(a Int)", "-t 1; +u 1; -t 1", "ErrAbsent 2"},
	{"t(a Int) | u(a Int)", "+u 1; -t 1", "ErrAbsent 1"},
	// A table that becomes full, and one that would have room only behind.
	{"t(a Int) 1 *63", "+t 1; +t 1", "ErrFull 1"},
	{"t(a Int) 1 *63", "+t 2; +t 3", "ErrFull 1"},
	{"t(a Int) 1 *57", many("+t 1", 8), "ErrFull 7"},
	{"t(a Int) 1 *64", "+t 1; -t 1", "ErrFull 0"},
	{"t(a Int) 1 *64", "+t 2; -t 1", "ErrFull 0"},
	{"t(a Int) 1 *63", "+t 2; +t 2; -t 1", "ErrFull 1"},
	{"t(a Int) 1 *64", "-t 1; +t 2; +t 3", "ErrFull 2"},
	{"t(a Int) 1 *64", "-t 1; +t 1; +t 1; -t 1", "ErrFull 2"},
	{full(), "-t 99; +t 100; +t 101", "ErrFull 2"},
	{"t(a Int) 1 *64 | u(a Int) 1", "-u 1; +t 1", "ErrFull 1"},
	// Of the errors of several changes, the first change's counts, whatever they are.
	{"t(a Int) 1 *64", "+t 1; -t 2; +t 'x'; +u 1", "ErrFull 0"},
	{"t(a Int) 1 *64", "-t 2; +t 1; +t 'x'; +u 1", "ErrAbsent 0"},
	{"t(a Int) 1 *64", "+t 'x'; -t 2; +t 1; +u 1", "ErrType 0"},
	{"t(a Int) 1 *64", "+u 1; +t 'x'; -t 2; +t 1", "ErrName 0"},
	{"t(a Int) 1 *63", "+t 1; +t 1; -t 2; +t 'x'; +u 1", "ErrFull 1"},
	{"t(a Int) 1 *63", "+t 1; -t 1; -t 1; +t 1; -t 2; +u 1", "ErrAbsent 4"},
	{"t(a Int) 1; 2", "-t 1; +t 'x'; +u 1", "ErrType 1"},
	{"t(a Int) 1; 2", "-t 1; +u 1; +t 'x'", "ErrName 1"},
}

func TestP161InOrder(t *testing.T) {
	for _, x := range inOrder {
		applies(t, tables(x.tables), changes(x.changes), x.want)
	}
}

// TestP161Full has tables with as many rows as they take, or as they will have.
func TestP161Full(t *testing.T) {
	applies(t, tables("t(a Int) 1 *63"), changes("+t 1"), "t(a Int) 1 *64 => t: 1")
	applies(t, tables("t(a Int) 1 *63"), changes("+t 2"), "t(a Int) 1 *63; 2 => t: 2")
	applies(t, tables("t(a Int) 1 *64"), changes("-t 1; +t 1"), "t(a Int) 1 *64 => t:")
	applies(t, tables("t(a Int) 1 *64"), changes("-t 1; +t 2"), "t(a Int) 1 *63; 2 => t: 1 *-1; 2")
	applies(t, tables("t(a Int) 1 *64"), changes("-t 1; +t 2; -t 2; +t 3; -t 1; +t 1; -t 3; +t 2"), "t(a Int) 1 *63; 2 => t: 1 *-1; 2")
	applies(t, tables("t(a Int) 1 *64 | u(a Int) 1 *63"), changes("+u 1"), "t(a Int) 1 *64 | u(a Int) 1 *64 => u: 1")
	applies(t, tables(full()), changes("-t 99; +t 98"), strings.Replace(full(), "; 99 *2", "; 98; 99", 1)+" => t: 98; 99 *-1")
	for n := range 63 {
		l := tables(full())
		l[0].Rows = l[0].Rows[:n]
		after, _, why, _ := batch.Apply(l, changes("+t 77"))
		if why != api.OK || len(after) != 1 || len(after[0].Rows) != n+1 {
			t.Errorf("P16.1: a row added to %d: %s", n, showErr(why))
		}
	}
}

// TestP161Nothing has a refused call leave nothing: the same tables take the changes that come before the one that was refused.
func TestP161Nothing(t *testing.T) {
	l := tables(two)
	for _, x := range []struct{ changes, want string }{
		{"+t 3 'z'; -u 7; -u 7", "ErrAbsent 2"},
		{"+t 3 'z'; -u 7; +u 'x'", "ErrType 2"},
		{"+t 3 'z'; -u 7; +w 1", "ErrName 2"},
		{"+t 3 'z'; -u 7", "t(a Int, b Text) 1 'x' *2; 2 'y'; 3 'z' | u(c Int) => t: 3 'z' | u: 7 *-1"},
		{"-t 3 'z'", "ErrAbsent 0"},
	} {
		applies(t, l, changes(x.changes), x.want)
		if got := showTables(l); got != two {
			t.Fatalf("P16.1: %s has changed the tables to %s", x.changes, got)
		}
	}
}
