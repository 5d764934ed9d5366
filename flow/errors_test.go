package flow_test

import (
	"fmt"
	"math"
	"slices"
	"strings"
	"testing"
	"time"

	"confluence/api"
	"confluence/check"
	"confluence/flow"
	"confluence/zset"
)

const far = api.MaxPart

// wrongSets are sets that are not valid or whose rows do not fit a table of columns a Int, b Text, each by one fault.
func wrongSets() []api.Set {
	good := item("1 'x'").Row
	var sets []api.Set
	for _, c := range []complex128{
		0, 1 + 1i, 2 + 1i, 1 + 2i, -1, -1i, -1 - 1i, 0.5, 0.5i, 1 + 0.5i, far + 1, (far + 1) * 1i,
		complex(math.Inf(1), 0), complex(0, math.Inf(1)), complex(math.NaN(), 0), complex(1, math.NaN()), complex(math.MaxFloat64, 0),
	} {
		sets = append(sets, api.Set{{Row: good, T: c}}, api.Set{{Row: good, T: 1}, {Row: item("2 'x'").Row, T: c}}, api.Set{{Row: item("0 ''").Row, T: c}, {Row: good, T: 1}})
	}
	for _, r := range append(unfitRows(),
		nil, api.Row{}, api.Row{{}, str("x")}, api.Row{num(1), {}}, api.Row{{Kind: 3}, str("x")}, api.Row{{Kind: api.Int, N: 1, S: "x"}, str("x")},
		api.Row{num(1), {Kind: api.Text, N: 1, S: "x"}}, api.Row{num(1), str(longest + "z")}, api.Row{num(1), str("x"), num(1), num(1), num(1), num(1), num(1)},
	) {
		for _, net := range []int64{1, -1} {
			bad := api.Item{Row: r, T: tally(net)}
			sets = append(sets, api.Set{bad}, api.Set{item("0 ''"), bad}, api.Set{bad, item("9 'x'")}, api.Set{item("0 ''"), bad, item("9 'x'")})
		}
	}
	for _, s := range []string{"1 'x'; 1 'x'", "2 'x'; 1 'x'", "1 'y'; 1 'x'", "1 'x' *2; 1 'x' *-3", "1 'a'; 2 'a'; 3 'a'; 3 'a'", "1 'a'; 3 'a'; 2 'a'; 4 'a'", "1 'x'; 0 'x'; 2 'x'"} {
		sets = append(sets, items(s))
	}
	return sets
}

// unfitRows are valid rows that do not fit columns a Int, b Text.
func unfitRows() []api.Row {
	return []api.Row{
		{num(1)}, {str("x")}, {num(1), str("x"), num(1)}, {num(1), str("x"), str("x")}, {num(1), num(1)}, {str("x"), str("x")}, {str("x"), num(1)},
		{num(1), str("x"), num(1), num(1), num(1), num(1)},
	}
}

func TestP142WrongRows(t *testing.T) {
	for _, s := range []string{"(table t)", "(distinct (project (x a) (table t)))", "(union (table t) (filter a (table t)))", "(join (a) (c) (table t) (table u))", "(group (b) (n count) (table t))"} {
		v := start(t, s, common)
		v.take(deltas("t: 1 'x' *2; 2 'y' | u: 1 5"))
		for _, bad := range wrongSets() {
			x := flow.Delta{Name: "t", Rows: bad}
			good := flow.Delta{Name: "t", Rows: items("1 'x'; 3 'z'")}
			other := flow.Delta{Name: "v", Rows: bad}
			for _, l := range [][]flow.Delta{{x}, {good, x}, {x, good}, {good, x, good}, {other, x}, {x, other}, {x, x}, {good, {Name: "u", Rows: items("1 1")}, x}} {
				if got, why := v.take(l); why != api.ErrArg || got != nil {
					t.Errorf("P14.2: %s: Step of %s: %s", s, tellAll(l), told(got, why))
				}
			}
		}
	}
	// A row may fit one table and not another.
	v := start(t, "(union (project (x c) (table u)) (table w))", common)
	v.steps("w: 1", "1", "u: 1", "ErrArg", "u: 1 2", "1", "w: 1 2", "ErrArg", "w: 1 | u: 2 | u: 1 1", "ErrArg", "u: 1 'x'", "ErrArg", "w: 'x'", "ErrArg", "w: | u: 1 2 3", "ErrArg", "w: 1 *-1 | u: 1 2 *-1", "1 *-2")
}

func TestP142RowsOutOfRange(t *testing.T) {
	for _, s := range []string{"(table t)", "(filter 0 (table t))", "(group () (n count) (table t))", "(join (b) (b) (table t) (project (b b) (table t)))"} {
		v := start(t, s, common)
		for _, c := range []string{
			"t: 1 'x' *-1", "t: 1 'x'; 2 'x' *-1", "t: 1 'x' *-1; 2 'x'", fmt.Sprint("t: 1 'x' *-", int64(far)), "t: 1 'x' | t: 1 'x' *-2", "t: 1 'x' *-2 | t: 1 'x'",
			"t: 1 'x' *-1 | t: 2 'x'", "t: 1 'x' | t: 2 'x' *-1 | t: 3 'x'",
		} {
			v.step(c, "ErrRange")
		}
		v.take(deltas("t: 1 'x' *2; 2 'x'"))
		for _, c := range []string{
			"t: 1 'x' *-3", "t: 2 'x' *-2", "t: 1 'x' *-2; 2 'x' *-2", "t: 1 'x' *-2 | t: 1 'x' *-1", "t: 1 'x' *-4 | t: 1 'x'", "t: 1 'y' *-1", "t: 3 'x' *-1", "t: 1 'x' | t: 3 'x' *-1",
			"t: 1 'x' | t: 2 'x' | t: 1 'x' *-4", "t: 1 'x' *-5 | u: 1 1",
			// The tallies are added one after the other.
			fmt.Sprintf("t: 1 'x' *%d", int64(far)), fmt.Sprintf("t: 1 'x' *%d", int64(far-1)), fmt.Sprintf("t: 1 'x' *%d | t: 1 'x' *-%d", int64(far), int64(far)),
			fmt.Sprintf("t: 1 'x' *%d | t: 1 'x' | t: 1 'x' *-%d", int64(far-2), int64(far-1)),
			fmt.Sprintf("t: 3 'x' *-%d | t: 3 'x' *-1 | t: 3 'x' *%d", int64(far), int64(far)),
			fmt.Sprintf("t: 3 'x' *%d | t: 3 'x' *1 | t: 3 'x' *-%d", int64(far), int64(far)),
		} {
			v.step(c, "ErrRange")
		}
		// Below none on the way only, and as far as may be.
		for _, c := range []string{
			"t: 1 'x' *-3 | t: 1 'x' *3", "t: 4 'x' *-1 | t: 4 'x'", "t: 4 'x' *-7 | t: 1 'x' | t: 4 'x' *7 | t: 1 'x' *-1", "t: 4 'x' | t: 4 'x' *-2 | t: 4 'x'",
			fmt.Sprintf("t: 3 'x' *-%d | t: 3 'x' *%d", int64(far), int64(far)), fmt.Sprintf("t: 3 'x' *%d | t: 3 'x' *-%d", int64(far), int64(far)),
			fmt.Sprintf("t: 1 'x' *%d | t: 1 'x' *-%d", int64(far-2), int64(far-2)),
			fmt.Sprintf("t: 1 'x' *-%d | t: 1 'x' *%d", int64(far), int64(far)),
			fmt.Sprintf("t: 1 'x' *%d | t: 1 'x' *-%d | t: 1 'x' *%d | t: 1 'x' *-%d", int64(far-2), int64(far), int64(far), int64(far-2)),
		} {
			v.step(c, "")
		}
	}
	// What is added is as far as may be only beside what is there.
	v := start(t, "(table t)", common)
	v.take(deltas("t: 1 'x' *2; 2 'x'"))
	v.steps(
		fmt.Sprintf("t: 1 'x' *-%d | t: 1 'x' *-2 | t: 1 'x' *%d", int64(far), int64(far)), "1 'x' *-2",
		fmt.Sprintf("t: 2 'x' *-%d | t: 2 'x' *-1 | t: 2 'x' *%d | t: 2 'x' *3", int64(far), int64(far)), "2 'x' *2",
		fmt.Sprintf("t: 2 'x' *-%d | t: 2 'x' *-4 | t: 2 'x' *%d", int64(far), int64(far)), "ErrRange",
		fmt.Sprintf("t: 2 'x' *%d | t: 2 'x' *-%d", int64(far-3), int64(far)), "2 'x' *-3",
	)
	v.has("")
	// Of several tables, each by itself.
	v = start(t, "(union (table w) (project (x c) (table u)))", common)
	v.steps("w: 1 *-1 | u: 1 1", "ErrRange", "w: 1 | u: 1 1 *-1", "ErrRange", "u: 1 1 | w: 1 *-1 | w: 1", "1", "w: 1 *-1 | u: 1 1", "ErrRange", "w: 1 *-1 | u: 1 1 *-1", "ErrRange", "t: 1 'x' *-1", "", fmt.Sprint("v: 1 *-", int64(far)), "")
	// ErrArg comes first, wherever it stands.
	v.steps("w: 1 *-1 | u: 1", "ErrArg", "u: 1 | w: 1 *-1", "ErrArg", "u: 9 9 *-1 | w: 2; 2", "ErrArg", fmt.Sprintf("u: 1 1 *%d | w: 'x'", int64(far)), "ErrArg")
}

// long is an expression that is too long for every row.
const long = `(len (cat "0123456789012345678901234567890123456789" "0"))`

func TestP142ErrorsOfFilters(t *testing.T) {
	v := start(t, "(filter (add a 1) (table t))", common)
	v.steps(
		"t: 9223372036854775807 'x'", "ErrOver", "t: 1 'x'; 9223372036854775807 'x'", "ErrOver", "t: 1 'x' | t: 9223372036854775807 'x' | t: 2 'y'", "ErrOver",
		"t: -9223372036854775808 ''; 9223372036854775806 'x'", "-9223372036854775808 ''; 9223372036854775806 'x'",
		"t: 9223372036854775807 'x' | t: 9223372036854775807 'x' *-1", "", "t: 9223372036854775807 'x' *-1 | t: 9223372036854775807 'x'", "",
		"t: 9223372036854775806 'x' *-1 | t: 9223372036854775807 'x'", "ErrOver", "t: 9223372036854775806 'x' *-1", "9223372036854775806 'x' *-1",
	)
	// What is below the least number.
	v = start(t, "(filter (sub a 1) (table t))", common)
	v.steps("t: -9223372036854775807 'x'", "-9223372036854775807 'x'", "t: -9223372036854775808 'x'", "ErrOver", "t: 9223372036854775807 ''", "9223372036854775807 ''")
	start(t, "(filter (mul a a) (table t))", common).steps("t: 3037000499 ''", "3037000499 ''", "t: 3037000500 ''", "ErrOver", "t: -3037000500 ''", "ErrOver", "t: -3037000499 ''", "-3037000499 ''")
	start(t, "(filter (neg a) (table t))", common).steps("t: -9223372036854775807 ''", "-9223372036854775807 ''", "t: -9223372036854775808 ''", "ErrOver")
	v = start(t, `(filter (len (cat b "0123456789")) (table t))`, common)
	v.steps("t: 1 '"+longest[10:]+"'", "1 '"+longest[10:]+"'", "t: 1 '"+longest[9:]+"'", "ErrLong", "t: 2 '"+longest+"' | t: 1 ''", "ErrLong", "t: 1 '"+longest[9:]+"' | t: 1 '"+longest[9:]+"' *-1 | t: 2 ''", "2 ''")
	// Of two rows, the first one in order counts, however the Deltas stand.
	for _, c := range []struct{ plan, want string }{
		{`(filter (if (eq a 1) (add a 9223372036854775807) (if (eq a 2) ` + long + ` 1)) (table t))`, "ErrOver"},
		{`(filter (if (eq a 2) (add a 9223372036854775807) (if (eq a 1) ` + long + ` 1)) (table t))`, "ErrLong"},
		// The order of the Kid's rows.
		{`(filter (if (eq a -1) (add -9223372036854775808 a) (if (eq a -2) ` + long + ` 1)) (project (a (neg a)) (table t)))`, "ErrLong"},
		{`(filter (if (eq a -2) (add -9223372036854775808 a) (if (eq a -1) ` + long + ` 1)) (project (a (neg a)) (table t)))`, "ErrOver"},
	} {
		v := start(t, c.plan, common)
		v.take(deltas("t: 0 'x' *2; 5 'y'"))
		for _, s := range []string{
			"t: 1 'x'; 2 'x'", "t: 1 'x' | t: 2 'x'", "t: 2 'x' | t: 1 'x'", "t: 2 'x'; 7 'x' | t: 3 'x' | t: 0 'x' *-1; 1 'x'", "t: 0 'x' *-2; 1 'x' *3; 2 'x' *2; 5 'y'", "t: 1 'a'; 1 'b'; 2 'a'; 2 'b'",
		} {
			_, why := v.take(deltas(s))
			if showErr(why) != c.want {
				t.Errorf("P14.2: %s: Step of %s: %s, not %s", c.plan, s, showErr(why), c.want)
			}
		}
		v.take(deltas("t: 1 'x' | t: 2 'x' | t: 1 'x' *-1; 2 'x' *-1 | t: 0 'x' *-2"))
		v.take(deltas("t: 5 'y' *-1"))
	}
}

func TestP142ErrorsOfProjects(t *testing.T) {
	v := start(t, "(project (x (add a 1)) (y (len (cat b \"0123456789\"))) (table t))", common)
	v.steps(
		"t: 1 'x'", "2 11", "t: 9223372036854775807 ''", "ErrOver", "t: 1 '"+longest+"'", "ErrLong",
		// The first row, and of one row the first expression.
		"t: 9223372036854775807 '"+longest+"'", "ErrOver", "t: 1 '"+longest+"'; 9223372036854775807 ''", "ErrLong", "t: 9223372036854775807 '' | t: 1 '"+longest+"'", "ErrLong", "t: 9223372036854775807 ''; 9223372036854775807 '"+longest+"'", "ErrOver",
		"t: 9223372036854775807 '' | t: 2 'x' | t: 9223372036854775807 '' *-1", "3 11",
		"t: 2 'x' *-1; 9223372036854775806 'x'", "3 11 *-1; 9223372036854775807 11",
	)
	v.has("2 11; 9223372036854775807 11")
	v = start(t, "(project (y (len (cat b \"0123456789\"))) (x (add a 1)) (table t))", common)
	v.steps("t: 9223372036854775807 '"+longest+"'", "ErrLong", "t: 9223372036854775807 ''; 9223372036854775807 '"+longest+"'", "ErrOver", "t: 1 ''", "10 2", "t: 1 '' *-1", "10 2 *-1")
}

func TestP142ErrorsOfSums(t *testing.T) {
	v := start(t, "(group (b) (s sum a) (table t))", common)
	v.steps(
		"t: 1 'y'; 9223372036854775807 'x'", "'x' 9223372036854775807; 'y' 1",
		"t: 1 'x'", "ErrOver", "t: 0 'z'; 1 'x'; 5 'y'", "ErrOver", "t: 0 'z'; 1 'x' | t: 5 'y'", "ErrOver", "t: 1 'x' | t: -1 'x'", "",
		"t: 2 'x'", "ErrOver", "t: -1 'x' *-1", "ErrOver",
		"t: 1 'x' *-1", "'x' 9223372036854775806; 'x' 9223372036854775807 *-1",
		"t: 2 'x'", "ErrOver", "t: 2 'x' | t: 2 'x' *-1", "", "t: 1 'x'", "'x' 9223372036854775806 *-1; 'x' 9223372036854775807",
		"t: -9223372036854775808 'y'", "'y' -9223372036854775807; 'y' 1 *-1", "t: -2 'y'", "ErrOver", "t: 1 'y' *-1", "'y' -9223372036854775808; 'y' -9223372036854775807 *-1", "t: -1 'y'", "ErrOver",
		"t: 9223372036854775807 'x' *-1", "'x' 0; 'x' 9223372036854775807 *-1",
	)
	// Sums are exact, however far they go on the way.
	v = start(t, "(group () (n count) (s sum a) (table t))", common)
	v.steps("t: 4611686018427387904 'x' *2; 4611686018427387904 'y'", "ErrOver", "t: -4611686018427387904 'z'; 4611686018427387904 'x' *2", "3 4611686018427387904", "t: 4611686018427387904 'y'", "ErrOver", "t: 4611686018427387903 'y'", "3 4611686018427387904 *-1; 4 9223372036854775807", "t: -4611686018427387904 'z' *-1", "ErrOver", "t: 4611686018427387904 'x' *-1", "3 4611686018427387903; 4 9223372036854775807 *-1")
}

// rows tells the rows 0 to n-1 of one number.
func rows(n int) string {
	var l []string
	for i := range n {
		l = append(l, fmt.Sprint(i))
	}
	return strings.Join(l, "; ")
}

func TestP142Full(t *testing.T) {
	v := start(t, "(table w)", common)
	v.steps("w: "+rows(513), "ErrFull", "w: 1 *513", "ErrFull", "w: 1 *512", "1 *512", "w: 1", "ErrFull", "w: 2", "ErrFull", "w: 1 *-1; 2 *2", "ErrFull", "w: 1 *-1; 2", "1 *-1; 2", "w: 2 | w: 1 *-1", "1 *-1; 2", "w: 3", "ErrFull", "w: 2 *-2", "2 *-2", "w: 3; 4", "3; 4", "w: 3 | w: 3 *-1", "")
	v.steps(fmt.Sprintf("w: 9 *%d", int64(far)), "ErrFull", fmt.Sprintf("w: 8 *%d; 9 *%d", int64(far), int64(far)), "ErrFull", fmt.Sprintf("w: 1 *-510; 8 *%d; 9 *%d", int64(far), int64(far)), "ErrFull", "w: 1 *-510", "1 *-510", "w: "+rows(510), rows(510))
	// Tables that the plan does not use are never full.
	v.steps("u: 1 1 *513", "", fmt.Sprintf("u: 1 1 *%d", int64(far)), "")
	// Each part of a plan by itself, though what it gives in the end is little.
	for _, s := range []string{"(filter 0 (table w))", "(distinct (table w))", "(group () (n count) (table w))", "(project (x 1) (table w))"} {
		v := start(t, s, common)
		v.take(deltas("w: 1 *512"))
		v.steps("w: 1", "ErrFull", "w: 2", "ErrFull")
		v.take(deltas("w: 1 *-1; 2"))
		v.step("w: 2", "ErrFull")
		v.take(deltas("w: 1 *-511; 2 *-1"))
		v.has("")
		v.step("w: "+rows(513), "ErrFull")
		v.take(deltas("w: " + rows(512)))
	}
	v = start(t, "(union (project (x c) (table u)) (table w))", common)
	v.steps("w: 1 *256 | u: 1 1 *257", "ErrFull", "w: 1 *256 | u: 1 1 *256", "1 *512", "w: 1", "ErrFull", "u: 2 2", "ErrFull", "w: 1 *-1 | u: 2 2", "1 *-1; 2", "w: 1 *-1 | u: 2 2 *2", "ErrFull", "u: 1 1 *-256", "1 *-256", "w: 2 *256", "2 *256", "w: 2", "ErrFull", "u: 2 2 *-1", "2 *-1", "w: 2", "2")
	v = start(t, "(filter 0 (union (table w) (table w)))", common)
	v.steps("w: 1 *256", "", "w: 1", "ErrFull", "w: 2", "ErrFull", "w: 2 | w: 1 *-1", "", "w: 1 *-255; 2 *-1", "", "w: "+rows(257), "ErrFull", "w: "+rows(256), "")
}

func TestP142FullJoins(t *testing.T) {
	v := start(t, "(join (c) (e) (table u) (table w))", common)
	v.steps(
		"u: 1 1 *16 | w: 1 *33", "ErrFull", "u: 1 1 *16 | w: 1 *32", "1 1 *512", "w: 1", "ErrFull", "u: 1 2", "ErrFull", "u: 2 2", "", "w: 2", "ErrFull",
		"w: 1 *-1; 2", "1 1 *-16; 2 2", "w: 2 *15", "2 2 *15", "w: 2", "ErrFull", "u: 2 2", "ErrFull", "u: 1 1 *-16", "1 1 *-496", "u: 2 2 *31", "2 2 *496", "u: 2 2", "ErrFull", "u: 2 3", "ErrFull",
		"w: 2 *-16", "2 2 *-512", "w: 1 *-31; 2", "2 2 *32", "u: 2 2 *-32", "2 2 *-32",
	)
	v.has("")
	// Many rows of many keys, and of one key.
	v = start(t, "(join (e) (x) (table w) (project (x e) (table w)))", common)
	v.steps("w: "+rows(512), rows(512), "w: 512", "ErrFull", "w: 0", "ErrFull", "w: 0 *-1; 512", "0 *-1; 512", "w: 1 *-1; 2 *-1; 3 *-1; 5", "1 *-1; 2 *-1; 3 *-1; 5 *3", "w: 6", "ErrFull")
	v = start(t, "(group () (n count) (join (z) (y) (project (z 0) (e e) (table w)) (project (y 0) (c c) (d d) (table u))))", common)
	pairs := func(n int) string {
		var l []string
		for i := range n {
			l = append(l, fmt.Sprint(i, i))
		}
		return strings.Join(l, "; ")
	}
	v.steps("w: "+rows(22)+" | u: "+pairs(23), "506", "w: 22", "ErrFull", "u: 23 23", "ErrFull", "w: 21 *-1", "483; 506 *-1", "u: 23 23", "483 *-1; 504", "w: "+rows(512), "ErrFull", "w: 21; 22", "ErrFull")
	// All rows of one side go while many come on the other.
	v.steps("w: 0 *-1 | u: 24 24", "500; 504 *-1", "u: "+flipped(pairs(22))+"; 100 100", "80; 500 *-1", "w: 30; 31; 32 | u: 22 22 *-1", "69; 80 *-1")
	// Many rows go on one side while many come on the other: no pair of those is ever there.
	v = start(t, "(join (z) (y) (project (z 0) (e e) (table w)) (project (y 0) (c c) (d d) (table u)))", common)
	v.steps("w: "+rows(512), "", "w: "+flipped(rows(512))+" | u: "+pairs(512), "", "u: "+flipped(pairs(512))+" | w: "+rows(512), "", "u: 0 0", strings.ReplaceAll("0 "+rows(512)+" 0 0", "; ", " 0 0; 0 "), "u: 0 0 *-1; 7 7 | w: "+flipped(rows(511)), flipped(strings.ReplaceAll("0 "+rows(511)+" 0 0", "; ", " 0 0; 0 "))+"; 0 511 0 0 *-1; 0 511 7 7", "w: "+rows(511)+" | u: "+pairs(7), "ErrFull", "u: "+pairs(7)[len("0 0; "):]+"; 8 8", "0 511 1 1; 0 511 2 2; 0 511 3 3; 0 511 4 4; 0 511 5 5; 0 511 6 6; 0 511 8 8")
}

// wrongParts are plans that fail by the rows of bad, with the error of each.
var wrongParts = [][2]string{
	{"(filter (add p 1) (table bad))", "ErrOver"},
	{"(project (x (mul p 2)) (table bad))", "ErrOver"},
	{"(group () (x sum p) (table bad))", "ErrOver"},
	{"(filter " + long + " (table bad))", "ErrLong"},
	{"(project (x " + long + ") (table bad))", "ErrLong"},
	{"(union (table bad) (project (p 1) (table heap)))", "ErrFull"},
	{"(join (p) (q) (project (p 1) (table heap)) (project (q (lt 0 p)) (union (table bad) (table bad))))", "ErrFull"},
}

const wrongDefs = "bad: p Int; heap: q Int; fine: r Int"

// TestP142ErrorsInOrder holds plans to the errors of their Kids, which come first, the left one's ahead of the right one's.
func TestP142ErrorsInOrder(t *testing.T) {
	check := func(s, want string) {
		t.Helper()
		v := start(t, s, wrongDefs)
		if _, why := v.take(deltas("fine: 1; 2 | heap: 1 *300; 2 *212")); why != api.OK {
			return // A part of it is full without the rows of bad.
		}
		v.steps("bad: 9223372036854775807 *2", want, "bad: 9223372036854775807 *2 | fine: 1 *-1", want)
		// It goes away again when the row goes.
		v.take(deltas("bad: 9223372036854775807 *2 | bad: 9223372036854775807 *-2"))
		v.take(deltas("fine: 3 | heap: 1 *-1; 3"))
		// What is out of range or wrong comes ahead of every error of the plan.
		v.take(deltas("bad: 9223372036854775807 *2; -5 *-1"))
		v.take(deltas("fine: 1 *-5 | bad: 9223372036854775807 *2"))
		v.take(deltas("bad: 9223372036854775807 *2 | fine: 'x'"))
		v.take(deltas("bad: 9223372036854775807 *2 | fine: 1 *-5 | heap: 1 1"))
	}
	for _, x := range wrongParts {
		check(x[0], x[1])
		for _, around := range []string{
			"(filter (neg -9223372036854775808) %s)",
			"(filter " + long + " %s)",
			"(project (y (neg -9223372036854775808)) %s)",
			"(project (y " + long + ") %s)",
			"(distinct %s)",
			"(group () (n count) %s)",
			"(filter (neg -9223372036854775808) (group () (n count) %s))",
			"(union (table fine) %s)", "(union %s (table fine))",
			"(join (k) (r) (project (k 1) %s) (table fine))", "(join (r) (k) (table fine) (project (k 1) %s))",
			"(distinct (project (y " + long + ") (distinct %s)))",
		} {
			check(fmt.Sprintf(around, x[0]), x[1])
		}
		for _, y := range wrongParts {
			for _, both := range []string{
				"(union (project (x 1) %s) (project (x 1) %s))",
				"(join (k) (l) (project (k 1) %s) (project (l 1) %s))",
				"(union (distinct (project (x 1) %s)) (group () (n count) %s))",
				"(group () (n count) (union (project (x 1) %s) (union (table fine) (project (x 1) %s))))",
				"(union (union (table fine) (project (x 1) %s)) (project (x 1) %s))",
			} {
				check(fmt.Sprintf(both, x[0], y[0]), x[1])
			}
		}
	}
}

// TestR3NothingHasChanged has each kind of part change ahead of one that fails, in every place.
func TestR3NothingHasChanged(t *testing.T) {
	all := "t: 1 'x' *2; 2 'y'; 3 'x' | u: 1 2; 2 3 *2 | w: 1 *3"
	for _, s := range forms {
		for _, bad := range wrongParts {
			for _, around := range []string{
				"(union (group () (n count) %s) (project (x 1) %s))",
				"(union (project (x 1) %[2]s) (group () (n count) %[1]s))",
				"(join (k) (l) (group () (k count) (distinct %s)) (project (l 1) %s))",
				"(union (union (group () (n count) %s) (project (x 1) %s)) (table w))",
				"(union (project (x 1) %s) (project (x 1) (distinct %s)))",
			} {
				text := fmt.Sprintf(around, s, bad[0])
				v := start(t, text, common+"; "+wrongDefs)
				v.take(deltas(all + " | heap: 1 *511"))
				v.take(deltas("t: 1 'x' *-1; 3 'x' *-1; 4 'x' | u: 1 2 *-1; 1 3 | w: 1 *-1; 2 | bad: 9223372036854775807 *2"))
				v.take(deltas("t: 1 'x' *-2; 2 'y' *-1; 3 'x' *-1 | u: 1 2 *-1; 2 3 *-2 | w: 1 *-3 | bad: 9223372036854775807 *2"))
				v.take(deltas("t: 4 'x' | w: 2 | bad: 9223372036854775807 *2"))
				v = v.loaded()
				v.take(deltas("u: 1 3; 2 3 *-1 | bad: 9223372036854775807 *2"))
				v.take(deltas("t: 3 'x' *-1; 4 'z' | u: 1 2 *-1; 1 3 | w: 1 *-1; 2"))
				v.take(deltas("t: 4 'x' | t: 1 'x' *-2 | u: 1 3 *-1 | w: 2 *-1"))
				v.take(deltas("t: 2 'y' *-1; 4 'x' *-1; 4 'z' *-1 | u: 2 3 *-2 | w: 1 *-2"))
			}
		}
	}
}

// TestP142Many has Deltas of a great many rows, and a great many Deltas: it must not take long.
func TestP142Many(t *testing.T) {
	begin := time.Now()
	var great api.Set
	for i := range int64(200000) {
		great = append(great, api.Item{Row: api.Row{num(i)}, T: 1})
	}
	var small []flow.Delta
	for i := range 200000 {
		small = append(small, flow.Delta{Name: "w", Rows: api.Set{{Row: api.Row{num(int64(i / 2 % 300))}, T: tally(int64(1 - i%2*2))}}})
	}
	v := start(t, "(distinct (union (table w) (project (x c) (table u))))", common)
	for range 3 {
		for _, c := range []struct {
			l    []flow.Delta
			want string
		}{
			{[]flow.Delta{{Name: "w", Rows: great}}, "ErrFull"},
			{[]flow.Delta{{Name: "w", Rows: zset.Flip(great)}}, "ErrRange"},
			{[]flow.Delta{{Name: "w", Rows: great}, {Name: "w", Rows: zset.Flip(great)}}, ""},
			{[]flow.Delta{{Name: "w", Rows: great}, {Name: "w", Rows: zset.Flip(great[7:])}}, "0; 1; 2; 3; 4; 5; 6"},
			{[]flow.Delta{{Name: "w", Rows: zset.Flip(great[:7])}}, "0 *-1; 1 *-1; 2 *-1; 3 *-1; 4 *-1; 5 *-1; 6 *-1"},
			{small, ""},
			{small[:199999], "99"},
			{[]flow.Delta{{Name: "w", Rows: items("99 *-1")}}, "99 *-1"},
			{append(small[1:], flow.Delta{Name: "w", Rows: items("0")}), ""},
			{append(small[1:2:2], small[3:]...), "ErrRange"},
		} {
			if got, why := v.flow.Step(c.l); told(got, why) != c.want {
				t.Errorf("P14.2: Step of %s: %s, not %s", cut(tellAll(c.l[:1])), cut(told(got, why)), c.want)
			}
		}
	}
	if took := time.Since(begin); took > 30*time.Second {
		t.Errorf("it took %v", took)
	}
}

// TestP142ManyPairs joins tables of which all rows meet: it must not take long to tell that these are too many.
func TestP142ManyPairs(t *testing.T) {
	begin := time.Now()
	var left, right api.Set
	for i := range int64(api.MaxOut) {
		left = append(left, api.Item{Row: api.Row{num(i)}, T: 1})
		right = append(right, api.Item{Row: api.Row{num(i), num(-i)}, T: 1})
	}
	v := start(t, "(join (z) (y) (project (z 0) (e e) (table w)) (project (y 0) (c c) (d d) (table u)))", common)
	both := []flow.Delta{{Name: "w", Rows: left}, {Name: "u", Rows: right}}
	full := func(l []flow.Delta) {
		t.Helper()
		for range 200 {
			if got, why := v.flow.Step(l); why != api.ErrFull {
				t.Fatalf("P14.2: Step to more pairs than may be: %s", cut(told(got, why)))
			}
		}
	}
	full(both)
	v.take(both[:1])
	full(both[1:])
	v.has("")
	if took := time.Since(begin); took > 20*time.Second {
		t.Errorf("it took %v", took)
	}
}

// TestP141Many makes flows of a plan of many parts among a great many tables: it must not take long.
func TestP141Many(t *testing.T) {
	begin := time.Now()
	l := defs(common)
	for i := range 100000 {
		name := []byte("aaaaa")
		for k := range name {
			name[k] = byte('a' + i%26)
			i /= 26
		}
		l = append(l, check.Def{Name: string(name), Cols: l[0].Cols})
	}
	wide := "(table t)"
	for range 5 {
		wide = "(union " + wide + " " + wide + ")"
	}
	p := read(t, wide)
	for range 30 {
		if f, why := flow.New(p, l); f == nil || why != api.OK {
			t.Fatalf("P14.1: New among many tables: %s", showErr(why))
		}
	}
	f, why := flow.Load(read(t, "(union (table aaaaa) (table zzzaa))"), l, slices.Concat(zset.Encode(items("1 'x'")), zset.Encode(items("1 'x' *2"))))
	if why != api.OK || show(f.Rows()) != "1 'x' *3" {
		t.Errorf("P14.3: Load among many tables: %s", showErr(why))
	}
	if took := time.Since(begin); took > 20*time.Second {
		t.Errorf("it took %v", took)
	}
}
