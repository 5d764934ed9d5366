package batch_test

import (
	"fmt"
	"slices"
	"strconv"
	"strings"
	"testing"

	"confluence/api"
	"confluence/batch"
	"confluence/eval"
	"confluence/flow"
)

// longest is as long as a text may be, longName as a name.
var longest, longName = strings.Repeat("z", api.MaxText), strings.Repeat("q", api.MaxName)

func num(n int64) api.Value { return api.Value{Kind: api.Int, N: n} }

func str(s string) api.Value { return api.Value{Kind: api.Text, S: s} }

// tally returns the reduced tally of a Net.
func tally(net int64) complex128 {
	return complex(float64(max(net, 0)), float64(max(-net, 0)))
}

// item returns the item that a text like "1 'x' *-3" tells: a number and a text, removed three times.
func item(s string) api.Item {
	x := api.Item{T: 1}
	for w := range strings.FieldsSeq(s) {
		n, err := strconv.ParseInt(strings.TrimPrefix(w, "*"), 10, 64)
		switch {
		case w[0] == '\'':
			x.Row = append(x.Row, str(strings.Trim(w, "'")))
		case err != nil:
			panic("no value: " + w)
		case w[0] == '*':
			x.T = tally(n)
		default:
			x.Row = append(x.Row, num(n))
		}
	}
	return x
}

// items returns the items that a text like "1 'x' *-3; 2 'y'" tells, be they a set or not.
func items(s string) api.Set {
	var l api.Set
	if s == "" {
		return nil
	}
	for part := range strings.SplitSeq(s, "; ") {
		l = append(l, item(part))
	}
	return l
}

// table returns the table that a text like "t(a Int, b Text) 1 'x' *3; 2 'y'" tells.
func table(s string) eval.Table {
	name, rest, _ := strings.Cut(s, "(")
	list, rows, _ := strings.Cut(rest, ")")
	t := eval.Table{Name: name, Rows: items(strings.TrimPrefix(rows, " "))}
	for c := range strings.SplitSeq(list, ", ") {
		name, kind, _ := strings.Cut(c, " ")
		n, err := strconv.Atoi(kind)
		switch {
		case kind == "Int":
			n = api.Int
		case kind == "Text":
			n = api.Text
		case err != nil:
			continue
		}
		t.Cols = append(t.Cols, api.Col{Name: name, Kind: n})
	}
	return t
}

// tables returns the tables that a text tells, one beside another by " | ".
func tables(s string) []eval.Table {
	var l []eval.Table
	if s == "" {
		return nil
	}
	for part := range strings.SplitSeq(s, " | ") {
		l = append(l, table(part))
	}
	return l
}

// changes returns those that a text like "+t 1 'x'; -t 2 'y'" tells: one is added, one removed.
func changes(s string) []api.Change {
	var l []api.Change
	if s == "" {
		return nil
	}
	for part := range strings.SplitSeq(s, "; ") {
		name, rest, _ := strings.Cut(part, " ")
		l = append(l, api.Change{Table: name[1:], Row: item(rest).Row, Remove: name[0] == '-'})
	}
	return l
}

func showRow(r api.Row) string {
	var l []string
	for _, v := range r {
		switch {
		case v.Kind == api.Int && v.S == "":
			l = append(l, fmt.Sprint(v.N))
		case v.Kind == api.Text && v.N == 0:
			l = append(l, "'"+v.S+"'")
		default:
			l = append(l, fmt.Sprintf("%#v", v))
		}
	}
	return strings.Join(l, " ")
}

// show tells a set as items reads it.
func show(s api.Set) string {
	var l []string
	for _, x := range s {
		r := showRow(x.Row)
		switch {
		case x.T == 1:
		case imag(x.T) == 0 && real(x.T) > 1:
			r += fmt.Sprintf(" *%d", int64(real(x.T)))
		case real(x.T) == 0 && imag(x.T) >= 1:
			r += fmt.Sprintf(" *-%d", int64(imag(x.T)))
		default:
			r += fmt.Sprintf(" *%v", x.T)
		}
		l = append(l, r)
	}
	return strings.Join(l, "; ")
}

// showTables tells tables as tables reads them.
func showTables(l []eval.Table) string {
	var all []string
	for _, t := range l {
		var list []string
		for _, c := range t.Cols {
			kind := fmt.Sprint(c.Kind)
			switch c.Kind {
			case api.Int:
				kind = "Int"
			case api.Text:
				kind = "Text"
			}
			list = append(list, c.Name+" "+kind)
		}
		all = append(all, strings.TrimSuffix(t.Name+"("+strings.Join(list, ", ")+") "+show(t.Rows), " "))
	}
	return strings.Join(all, " | ")
}

// showDeltas tells Deltas: "t: 1 'x' | u: 3 *-1".
func showDeltas(l []flow.Delta) string {
	var all []string
	for _, d := range l {
		all = append(all, strings.TrimSuffix(d.Name+": "+show(d.Rows), " "))
	}
	return strings.Join(all, " | ")
}

func showChanges(c []api.Change) string {
	var all []string
	for _, x := range c {
		sign := "+"
		if x.Remove {
			sign = "-"
		}
		all = append(all, sign+x.Table+" "+showRow(x.Row))
	}
	return strings.Join(all, "; ")
}

var names = map[api.Errno]string{
	api.OK: "OK", api.ErrArg: "ErrArg", api.ErrMany: "ErrMany", api.ErrName: "ErrName", api.ErrType: "ErrType",
	api.ErrAbsent: "ErrAbsent", api.ErrFull: "ErrFull", api.ErrRange: "ErrRange",
}

func showErr(why api.Errno) string {
	if name, ok := names[why]; ok {
		return name
	}
	return fmt.Sprintf("error %d", why)
}

// cut keeps what is told short.
func cut(s string) string {
	if len(s) > 500 {
		return s[:500] + ".."
	}
	return s
}

// told tells all that Apply returns: "tables => Deltas", or the error with its index. What may not stand beside an error, or an index beside OK, is told too.
func told(after []eval.Table, l []flow.Delta, why api.Errno, at int) string {
	var s string
	switch {
	case why == api.OK && at == 0:
		return showTables(after) + " => " + showDeltas(l)
	case why == api.OK:
		s = showTables(after) + " => " + showDeltas(l) + ", OK"
	default:
		s = showErr(why)
		if len(after) > 0 || len(l) > 0 {
			s += " beside " + showTables(after) + " => " + showDeltas(l) + ","
		}
	}
	return s + fmt.Sprint(" ", at)
}

// applies holds what Apply returns to a text.
func applies(t *testing.T, l []eval.Table, c []api.Change, want string) {
	t.Helper()
	if got := told(batch.Apply(l, c)); got != want {
		t.Errorf("P16.1: %s for %s: %s, want %s", cut(showChanges(c)), cut(showTables(l)), cut(got), cut(want))
	}
}

// two are tables with rows in them.
const two = "t(a Int, b Text) 1 'x' *2; 2 'y' | u(c Int) 7"

// good are changes that can be applied, and what they lead to.
var good = []struct{ tables, changes, want string }{
	// The examples of the chapter.
	{"t(a Int)", "+t 1; -t 1", "t(a Int) => t:"},
	{"t(a Int)", "+t 1; +t 1", "t(a Int) 1 *2 => t: 1 *2"},
	// A row is added and removed.
	{"t(a Int)", "+t 1", "t(a Int) 1 => t: 1"},
	{"t(a Int) 1", "-t 1", "t(a Int) => t: 1 *-1"},
	{"t(a Int) 1", "+t 1", "t(a Int) 1 *2 => t: 1"},
	{"t(a Int) 1 *3", "-t 1", "t(a Int) 1 *2 => t: 1 *-1"},
	{"t(a Int) 1 *3", "-t 1; -t 1; -t 1", "t(a Int) => t: 1 *-3"},
	{"t(a Int) 1 *3", "-t 1; -t 1", "t(a Int) 1 => t: 1 *-2"},
	{"t(a Int)", "+t 1; +t 1; +t 1; +t 1; -t 1; -t 1; -t 1; -t 1", "t(a Int) => t:"},
	{"t(a Int) 1", "+t 1; +t 1; -t 1; -t 1; -t 1", "t(a Int) => t: 1 *-1"},
	{"t(a Int) 1", "-t 1; +t 1", "t(a Int) 1 => t:"},
	{"t(a Int) 1", "+t 1; -t 1", "t(a Int) 1 => t:"},
	{"t(a Int)", "+t 1; -t 1; +t 1; -t 1; +t 1; -t 1; +t 1; -t 1", "t(a Int) => t:"},
	{"t(a Int) 1", "-t 1; +t 1; -t 1; +t 1; -t 1; +t 1; -t 1", "t(a Int) => t: 1 *-1"},
	// Rows come in order, wherever they are named.
	{"t(a Int) 5", "+t 9; +t 1; +t 5; +t -3; +t 1; +t 7", "t(a Int) -3; 1 *2; 5 *2; 7; 9 => t: -3; 1 *2; 5; 7; 9"},
	{"t(a Int) 1; 3; 5", "-t 5; +t 4; -t 1; +t 2", "t(a Int) 2; 3; 4 => t: 1 *-1; 2; 4; 5 *-1"},
	{"t(b Text) 'b'", "+t 'c'; +t 'a'; +t 'B'", "t(b Text) 'B'; 'a'; 'b'; 'c' => t: 'B'; 'a'; 'c'"},
	{"t(a Int, b Text) 1 'x'", "+t 1 'w'; +t 0 'z'; -t 1 'x'", "t(a Int, b Text) 0 'z'; 1 'w' => t: 0 'z'; 1 'w'; 1 'x' *-1"},
	// A row with the same beginning as another is another one.
	{"t(a Int, b Int) 1 1; 1 2", "-t 1 2; +t 2 1", "t(a Int, b Int) 1 1; 2 1 => t: 1 2 *-1; 2 1"},
	// Several tables: a Delta for each that is named, in the order of the names, none for another one.
	{two, "+u 8; +t 3 'z'", "t(a Int, b Text) 1 'x' *2; 2 'y'; 3 'z' | u(c Int) 7; 8 => t: 3 'z' | u: 8"},
	{two, "+t 3 'z'; +u 8", "t(a Int, b Text) 1 'x' *2; 2 'y'; 3 'z' | u(c Int) 7; 8 => t: 3 'z' | u: 8"},
	{two, "-u 7", "t(a Int, b Text) 1 'x' *2; 2 'y' | u(c Int) => u: 7 *-1"},
	{two, "-t 2 'y'", "t(a Int, b Text) 1 'x' *2 | u(c Int) 7 => t: 2 'y' *-1"},
	{two, "+u 8; +t 3 'z'; -u 8; -t 3 'z'", two + " => t: | u:"},
	{two, "+u 8; -t 1 'x'; -u 8", "t(a Int, b Text) 1 'x'; 2 'y' | u(c Int) 7 => t: 1 'x' *-1 | u:"},
	// Tables in any order stay in it; Deltas come in the order of the names.
	{"u(c Int) | t(a Int)", "+u 1; +t 2", "u(c Int) 1 | t(a Int) 2 => t: 2 | u: 1"},
	{"u(c Int) | t(a Int)", "+t 2; +u 1", "u(c Int) 1 | t(a Int) 2 => t: 2 | u: 1"},
	{"u(c Int) | t(a Int)", "+t 2", "u(c Int) | t(a Int) 2 => t: 2"},
	{"c(a Int) | a(a Int) | d(a Int) | b(a Int) | aa(a Int)", "+b 1; +d 2; +aa 3; +c 4; +a 5; +d 6; +b 1",
		"c(a Int) 4 | a(a Int) 5 | d(a Int) 2; 6 | b(a Int) 1 *2 | aa(a Int) 3 => a: 5 | aa: 3 | b: 1 *2 | c: 4 | d: 2; 6"},
	{"f(a Int) | e(a Int) | d(a Int) | c(a Int) | b(a Int) | a(a Int)", "+e 1; +a 1; +c 1", "f(a Int) | e(a Int) 1 | d(a Int) | c(a Int) 1 | b(a Int) | a(a Int) 1 => a: 1 | c: 1 | e: 1"},
	// More tables than a catalog has, and each change for another one.
	{"a(a Int) | b(a Int) | c(a Int) | d(a Int) | e(a Int) | f(a Int) | g(a Int) | h(a Int)", "+h 8; +g 7; +f 6; +e 5; +d 4; +c 3; +b 2; +a 1",
		"a(a Int) 1 | b(a Int) 2 | c(a Int) 3 | d(a Int) 4 | e(a Int) 5 | f(a Int) 6 | g(a Int) 7 | h(a Int) 8 => a: 1 | b: 2 | c: 3 | d: 4 | e: 5 | f: 6 | g: 7 | h: 8"},
	// The same row in two tables, and the same columns.
	{"t(a Int) 1 | u(a Int) 1", "-u 1", "t(a Int) 1 | u(a Int) => u: 1 *-1"},
	{"t(a Int) 1 | u(a Int)", "-t 1; +u 1", "t(a Int) | u(a Int) 1 => t: 1 *-1 | u: 1"},
	// The least and greatest values, the longest texts and names, as many columns as can be.
	{"t(a Int)", "+t 9223372036854775807; +t -9223372036854775808; +t 0", "t(a Int) -9223372036854775808; 0; 9223372036854775807 => t: -9223372036854775808; 0; 9223372036854775807"},
	{"t(b Text)", "+t '" + longest + "'; +t ''", "t(b Text) ''; '" + longest + "' => t: ''; '" + longest + "'"},
	{longName + "(" + longName + " Int)", "+" + longName + " 1", longName + "(" + longName + " Int) 1 => " + longName + ": 1"},
	{"t(a Int, b Text, c Int, d Text, e Int, f Text) 1 'b' 2 'd' 3 'f'", "+t 1 'b' 2 'd' 3 'e'; -t 1 'b' 2 'd' 3 'f'", "t(a Int, b Text, c Int, d Text, e Int, f Text) 1 'b' 2 'd' 3 'e' => t: 1 'b' 2 'd' 3 'e'; 1 'b' 2 'd' 3 'f' *-1"},
}

func TestP161Good(t *testing.T) {
	for _, x := range good {
		applies(t, tables(x.tables), changes(x.changes), x.want)
	}
}

// TestP161Again applies the same changes again: nothing is kept from call to call.
func TestP161Again(t *testing.T) {
	for range 2 {
		applies(t, tables("t(a Int) 1"), changes("-t 1"), "t(a Int) => t: 1 *-1")
		applies(t, tables("t(a Int) 1"), changes("-t 1; -t 1"), "ErrAbsent 1")
	}
}

// TestP161Longer has every number of changes that may be, each of another row and all of one.
func TestP161Longer(t *testing.T) {
	for n := 1; n <= api.MaxChanges; n++ {
		var each, same []string
		var rows []string
		for i := range n {
			each, same = append(each, fmt.Sprint("+t ", n-i)), append(same, "+t 1")
			rows = append(rows, fmt.Sprint(i+1))
		}
		applies(t, tables("t(a Int)"), changes(strings.Join(each, "; ")), "t(a Int) "+strings.Join(rows, "; ")+" => t: "+strings.Join(rows, "; "))
		often := "1"
		if n > 1 {
			often = fmt.Sprint("1 *", n)
		}
		applies(t, tables("t(a Int)"), changes(strings.Join(same, "; ")), "t(a Int) "+often+" => t: "+often)
		removed := strings.ReplaceAll(strings.Join(same, "; "), "+", "-")
		applies(t, tables("t(a Int) "+often), changes(removed), fmt.Sprint("t(a Int) => t: 1 *-", n))
	}
}

// TestP161Cols has the columns of all tables come back.
func TestP161Cols(t *testing.T) {
	l := tables("t(a Int, b Text) | u(c Text)")
	after, _, why, _ := batch.Apply(l, changes("+u 'x'"))
	if why != api.OK || len(after) != 2 || !slices.Equal(after[0].Cols, l[0].Cols) || !slices.Equal(after[1].Cols, l[1].Cols) {
		t.Errorf("P16.1: %s: %s", showErr(why), showTables(after))
	}
}

// TestP161Counts has rows that are contained more often than a table takes any: nothing is added to it, but rows are removed.
func TestP161Counts(t *testing.T) {
	applies(t, tables("t(a Int) 1 *70"), changes("-t 1"), "t(a Int) 1 *69 => t: 1 *-1")
	applies(t, tables("t(a Int) 1 *70"), changes("-t 1; +t 1"), "ErrFull 1")
	applies(t, tables("t(a Int) 1 *65"), changes("-t 1; -t 1; +t 2"), "t(a Int) 1 *63; 2 => t: 1 *-2; 2")
	applies(t, tables("t(a Int) 1 *65"), changes("-t 1; +t 2"), "ErrFull 1")
	// As often as a row can be contained, and so that the sum is beyond that.
	const most = 1 << 50
	applies(t, tables(fmt.Sprint("t(a Int) 1 *", most)), changes("-t 1"), fmt.Sprint("t(a Int) 1 *", most-1, " => t: 1 *-1"))
	for _, rows := range []string{fmt.Sprint("1 *", most), fmt.Sprint("1 *", most, "; 2"), fmt.Sprint("1 *", most, "; 2 *", most), fmt.Sprint("1 *", most, "; 2 *", most, "; 3 *", most)} {
		applies(t, tables("t(a Int) "+rows), changes("+t 1"), "ErrFull 0")
		applies(t, tables("t(a Int) "+rows), changes("+t 9"), "ErrFull 0")
		applies(t, tables("t(a Int) "+rows+" | u(b Int)"), changes("+u 1"), "t(a Int) "+rows+" | u(b Int) 1 => u: 1")
		applies(t, tables("t(a Int) "+rows), changes("-t 1; +t 1"), "ErrFull 1")
	}
	applies(t, tables(fmt.Sprint("t(a Int) 1 *", most, "; 2 *", most)), changes("-t 2"), fmt.Sprint("t(a Int) 1 *", most, "; 2 *", most-1, " => t: 2 *-1"))
}
