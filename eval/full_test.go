package eval_test

import (
	"fmt"
	"strings"
	"testing"
	"time"

	"confluence/api"
	"confluence/eval"
	"confluence/plan"
	"confluence/zset"
)

// often tells the row of one number, so many times.
func often(row string, n int) string { return fmt.Sprint(row, " *", n) }

// many returns the set of the rows 0 to n-1 of one number, each so many times.
func many(n int, often float64) api.Set {
	var s api.Set
	for i := range int64(n) {
		s = append(s, api.Item{Row: api.Row{num(i)}, T: complex(often, 0)})
	}
	return s
}

// TestP111FullTable has tables of just MaxOut rows and of more.
func TestP111FullTable(t *testing.T) {
	for _, c := range []struct {
		rows api.Set
		full bool
	}{
		{many(api.MaxOut-1, 1), false},
		{many(api.MaxOut, 1), false},
		{many(api.MaxOut+1, 1), true},
		{many(1, api.MaxOut), false},
		{many(1, api.MaxOut+1), true},
		{many(2, api.MaxOut/2), false},
		{many(3, api.MaxOut/2), true},
		{append(many(2, api.MaxOut/2), set("9")...), true},
		{append(many(1, api.MaxOut-3), set("5; 6; 7")...), false},
		{append(many(1, api.MaxOut-3), set("5; 6; 7 *2")...), true},
		{many(1, api.MaxPart), true},
		{many(2, api.MaxPart), true},
		// Sums that wrap round to numbers below 0, and to 0, if they are made.
		{many(1<<13, api.MaxPart), true},
		{many(1<<14, api.MaxPart), true},
		{append(many(1<<14, api.MaxPart), set("16384")...), true},
	} {
		l := one("a Int", "")
		l[0].Rows = c.rows
		l = append(l, table("u: a Int", "1"))
		want := show(c.rows)
		if c.full {
			want = "ErrFull"
		}
		each(t, l, "(table t)", want, "(filter 1 (table t))", want, "(table u)", "1", "(distinct (table u))", "1")
	}
}

// TestP111FullSteps has results of just MaxOut rows and of more at each step.
func TestP111FullSteps(t *testing.T) {
	half := api.MaxOut / 2
	all := numbers(api.MaxOut)
	l := []eval.Table{
		table("all: a Int", all),
		table("half: a Int", numbers(half)),
		table("more: a Int", numbers(half+1)),
		table("same: a Int", often("7", half)),
		table("samey: a Int", often("7", half+1)),
		table("heap: a Int", often("7", api.MaxOut)),
		table("one: a Int", "7"),
		table("two: a Int", "7 *2"),
		table("none: a Int", ""),
	}
	each(t, l,
		"(table all)", all,
		"(filter 1 (table all))", all,
		"(filter (lt a 500) (table all))", numbers(500),
		"(filter a (table heap))", "7 *512",
		"(project (b a) (table all))", all,
		"(project (b 1) (table all))", "1 *512",
		"(project (b a) (c a) (table heap))", "7 7 *512",
		"(distinct (table all))", all,
		"(distinct (table heap))", "7",
		"(group (a) (table all))", all,
		"(group (a) (n count) (table heap))", "7 512",
		"(group () (n count) (s sum a) (table all))", "512 130816",
		// Union.
		"(union (table half) (table half))", show(doubled(numbers(half))),
		"(union (table half) (table more))", "ErrFull",
		"(union (table more) (table half))", "ErrFull",
		"(union (table half) (table same))", strings.Replace(numbers(half), "7;", "7 *257;", 1),
		"(union (table same) (table same))", "7 *512",
		"(union (table same) (table samey))", "ErrFull",
		"(union (table samey) (table same))", "ErrFull",
		"(union (table all) (table none))", all,
		"(union (table none) (table heap))", "7 *512",
		"(union (table all) (table one))", "ErrFull",
		"(union (table one) (table all))", "ErrFull",
		"(union (table heap) (table one))", "ErrFull",
		"(union (table heap) (table heap))", "ErrFull",
		"(union (filter (not (eq a 7)) (table all)) (table one))", all,
		"(union (filter (not (eq a 7)) (table all)) (table two))", "ErrFull",
		// Join.
		"(join (a) (a) (table all) (table all))", all,
		"(join (a) (a) (table heap) (table one))", "7 *512",
		"(join (a) (a) (table one) (table heap))", "7 *512",
		"(join (a) (a) (table heap) (table two))", "ErrFull",
		"(join (a) (a) (table same) (table two))", "7 *512",
		"(join (a) (a) (table two) (table same))", "7 *512",
		"(join (a) (a) (table samey) (table two))", "ErrFull",
		"(join (a) (a) (table two) (table samey))", "ErrFull",
		"(join (a) (a) (table heap) (table heap))", "ErrFull",
		"(join (a) (a) (table all) (table heap))", "7 *512",
		"(join (a) (a) (table all) (table none))", "",
		"(join (x) (y) (project (x 0) (u a) (table half)) (project (y 0) (table two)))", "0 "+strings.ReplaceAll(numbers(half), "; ", " *2; 0 ")+" *2",
		"(join (x) (y) (project (x 0) (u a) (table more)) (project (y 0) (table two)))", "ErrFull",
		"(join (x) (y) (project (x 0) (table half)) (project (y 0) (u a) (table two)))", "0 7 *512",
		"(join (x) (y) (project (x 0) (u a) (table all)) (project (y 0) (v a) (table one)))", "0 "+strings.ReplaceAll(all, "; ", " 7; 0 ")+" 7",
		"(join (x) (y) (project (x 0) (u a) (table one)) (project (y 0) (v a) (table all)))", "0 7 "+strings.ReplaceAll(all, "; ", "; 0 7 "),
		"(join (x) (y) (project (x 0) (u a) (table all)) (project (y 0) (v a) (table two)))", "ErrFull",
		"(join (x) (y) (project (x 0) (u a) (table all)) (project (y 0) (v a) (table all)))", "ErrFull",
		"(join (x) (y) (project (x (lt a 2)) (u a) (table all)) (project (y (lt a 2)) (v a) (filter (lt a 2) (table all))))", "1 0 0; 1 0 1; 1 1 0; 1 1 1",
		// What would be few in the end is too much on the way.
		"(distinct (union (table heap) (table one)))", "ErrFull",
		"(filter 0 (union (table heap) (table one)))", "ErrFull",
		"(filter (eq a 1000) (union (table all) (table one)))", "ErrFull",
		"(group () (n count) (union (table all) (table one)))", "ErrFull",
		"(project (b 1) (union (table all) (table one)))", "ErrFull",
		"(join (a) (a) (table none) (union (table all) (table one)))", "ErrFull",
		"(join (a) (a) (union (table all) (table one)) (table none))", "ErrFull",
		"(union (table none) (union (table all) (table one)))", "ErrFull",
		"(union (union (table heap) (table one)) (table none))", "ErrFull",
		"(distinct (join (a) (a) (table heap) (table two)))", "ErrFull",
		"(group (a) (join (a) (a) (table heap) (table two)))", "ErrFull",
		// And what is few on the way isn't.
		"(union (distinct (table heap)) (filter (lt 0 a) (table all)))", strings.Replace(strings.TrimPrefix(all, "0; "), "; 7;", "; 7 *2;", 1),
		"(union (distinct (table heap)) (distinct (table heap)))", "7 *2",
	)
}

// TestP111FullPairs joins tables whose numbers of pairs are just MaxOut and one more, of several keys.
func TestP111FullPairs(t *testing.T) {
	for _, c := range []struct{ left, right, want string }{
		{"0 *22; 1 *2", "0 *23; 1 *3", "0 *506; 1 *6"},
		{"0 *22; 1 *7", "0 *23; 1", "ErrFull"},
		{"0 *27", "0 *19", "ErrFull"},
		{"0 *16; 5 *512", "0 *32; 6 *512", "ErrFull"},
		{"0 *16; 5 *490", "0 *32; 6 *480", "0 *512"},
		{"0 *256; 1 *256", "0; 1", "0 *256; 1 *256"},
		{"0 *256; 1 *256", "0; 1 *2", "ErrFull"},
		{"0 *255; 1 *257", "0; 1", "0 *255; 1 *257"},
		{"0 *171; 1; 2; 3", "0 *2; 1 *57; 2 *56; 3 *57", "0 *342; 1 *57; 2 *56; 3 *57"},
		{"0 *171; 1; 2; 3", "0 *2; 1 *57; 2 *57; 3 *57", "ErrFull"},
	} {
		l := []eval.Table{table("t: a Int", c.left), table("u: b Int", c.right)}
		each(t, l,
			"(join (a) (b) (table t) (table u))", c.want,
			"(join (b) (a) (table u) (table t))", c.want,
			"(filter 1 (join (a) (b) (table t) (table u)))", c.want,
		)
	}
	// Pairs of unlike rows: a rows of one key by b rows of it, and c rows of another by d.
	for _, c := range []struct{ a, b, c, d int }{{16, 32, 0, 0}, {27, 19, 0, 0}, {512, 1, 0, 0}, {1, 512, 0, 0}, {22, 23, 2, 3}, {22, 23, 7, 1}, {1, 7, 22, 23}, {256, 1, 1, 256}, {256, 1, 1, 257}, {257, 2, 0, 9}, {256, 256, 256, 256}, {0, 500, 500, 1}} {
		l := []eval.Table{
			{Name: "t", Cols: []api.Col{col("a Int"), col("b Int")}, Rows: append(keyed(0, c.a), keyed(1, c.c)...)},
			{Name: "u", Cols: []api.Col{col("c Int"), col("d Int")}, Rows: append(keyed(0, c.b), keyed(1, c.d)...)},
		}
		n := c.a*c.b + c.c*c.d
		want := fmt.Sprint(n)
		if n > api.MaxOut {
			want = "ErrFull"
		}
		each(t, l,
			"(group () (n count) (join (a) (c) (table t) (table u)))", want,
			"(group () (n count) (join (c) (a) (table u) (table t)))", want,
			"(group () (n count) (distinct (join (c) (a) (table u) (table t))))", want,
		)
	}
}

// keyed returns n rows of a key and the numbers 0 to n-1.
func keyed(key int64, n int) api.Set {
	var s api.Set
	for i := range int64(n) {
		s = append(s, api.Item{Row: api.Row{num(key), num(i)}, T: 1})
	}
	return s
}

// TestP111Kids holds plans to the errors of their Kids, which come first, the left one's ahead of the right one's.
func TestP111Kids(t *testing.T) {
	l := []eval.Table{
		table("t: a Int", "9223372036854775807 *2"),
		table("full: a Int", often("7", api.MaxOut+1)),
		table("fine: a Int", "1; 2"),
		table("heap: a Int", often("1", api.MaxOut)),
	}
	wrong := [][2]string{
		{"(filter (add a 1) (table t))", "ErrOver"},
		{"(project (a (mul a 2)) (table t))", "ErrOver"},
		{"(group () (a sum a) (table t))", "ErrOver"},
		{`(project (a (len (cat "0123456789012345678901234567890123456789" "0"))) (table fine))`, "ErrLong"},
		{`(filter (len (cat "0" "0123456789012345678901234567890123456789")) (table fine))`, "ErrLong"},
		{"(table full)", "ErrFull"},
		{"(union (table heap) (table fine))", "ErrFull"},
		{"(join (a) (a) (table heap) (union (table fine) (table fine)))", "ErrFull"},
	}
	for _, x := range wrong {
		gives(t, l, x[0], x[1])
		// What a plan around it does wrong comes later.
		for _, around := range []string{
			"(filter (neg -9223372036854775808) %s)",
			"(filter (len (cat \"0\" \"0123456789012345678901234567890123456789\")) %s)",
			"(filter 0 %s)",
			"(project (x (neg -9223372036854775808)) %s)",
			"(project (x (cat \"0\" \"0123456789012345678901234567890123456789\")) %s)",
			"(distinct %s)",
			"(group () (n count) %s)",
			"(group (a) (s sum a) %s)",
			"(distinct (project (x (neg -9223372036854775808)) (distinct %s)))",
			"(union (table fine) %s)", "(union %s (table fine))",
			"(join (a) (a) (table fine) %s)", "(join (a) (a) %s (table fine))",
			"(union (filter 0 (table fine)) %s)",
			"(join (a) (a) (filter 0 (table fine)) %s)", "(join (a) (a) %s (filter 0 (table fine)))",
		} {
			gives(t, l, fmt.Sprintf(around, x[0]), x[1])
		}
		for _, y := range wrong {
			for _, both := range []string{
				"(union %s %s)",
				"(join (a) (a) %s %s)",
				"(union (distinct %s) (filter 0 %s))",
				"(distinct (union (filter 0 %s) (table full)))%.0s",
				"(join (a) (a) (union (table fine) %s) %s)",
				"(group () (n count) (union %s (union (table fine) %s)))",
				"(join (a) (a) (filter (add a 9223372036854775806) %s) %s)",
			} {
				gives(t, l, fmt.Sprintf(both, x[0], y[0]), x[1])
			}
		}
	}
}

// TestP111Deep has plans as deep and as long as they may be.
func TestP111Deep(t *testing.T) {
	l := []eval.Table{table("t: a Int, b Text", "1 'x' *2; 2 ''; 3 'y' *4"), table("u: a Int, b Text", "1 'x'; 2 ''; 3 'y'")}
	all := show(l[0].Rows)
	for _, c := range []struct{ before, behind, want string }{
		{"(distinct ", ")", "1 'x'; 2 ''; 3 'y'"},
		{"(filter a ", ")", all},
		{"(project (a a) (b b) ", ")", all},
		{"(group (a b) ", ")", "1 'x'; 2 ''; 3 'y'"},
		{"(union ", " (table t))", "1 'x' *24; 2 '' *12; 3 'y' *48"},
		{"(union (table t) ", ")", "1 'x' *24; 2 '' *12; 3 'y' *48"},
		{"(join (a b) (a b) ", " (table u))", all},
	} {
		n := api.MaxDeep - 1
		s := strings.Repeat(c.before, n) + "(table t)" + strings.Repeat(c.behind, n)
		gives(t, l, s, c.want)
		if _, why, _ := plan.Read(c.before + s + c.behind); why != api.ErrDeep {
			t.Errorf("%s: not as deep as may be", s)
		}
	}
	// Each level adds 1, and the last one errs.
	rise := strings.Repeat("(project (a (add a 1)) ", api.MaxDeep-2)
	end := strings.Repeat(")", api.MaxDeep-2)
	gives(t, one("a Int", "-10; 0 *3; 9223372036854775797"), rise+"(table t)"+end, "0; 10 *3; 9223372036854775807")
	gives(t, one("a Int", "-10; 0 *3; 9223372036854775798"), rise+"(table t)"+end, "ErrOver")
	// Joined with itself at each level: the numbers grow.
	power := "(table t)"
	for range 3 {
		power = "(join (a) (a) " + power + " " + power + ")"
	}
	gives(t, one("a Int", "5 *2; 6"), power, "5 *256; 6")
	gives(t, one("a Int", "5 *2; 6 *2"), power, "5 *256; 6 *256")
	gives(t, one("a Int", "5 *2; 6 *2; 7"), power, "ErrFull")
	// As long as a plan may be.
	wide := "(table t)"
	for range 5 {
		wide = "(union " + wide + " " + wide + ")"
	}
	if len(wide) < api.MaxPlan-50 {
		t.Errorf("a plan of %d bytes only", len(wide))
	}
	gives(t, l, wide, "1 'x' *64; 2 '' *32; 3 'y' *128")
	gives(t, one("a Int", "1 *15; 2"), wide, "1 *480; 2 *32")
	gives(t, one("a Int", "1 *15; 2 *2"), wide, "ErrFull")
}

// TestP111Names takes tables by their names, wherever they stand and however many there are.
func TestP111Names(t *testing.T) {
	l := []eval.Table{table("b: a Int", "1"), table("a: a Int", "2"), table("ab: a Int", "3"), table("ba: b Int", "4"), table("bb: a Text", "'x'")}
	for range len(l) {
		each(t, l,
			"(table a)", "2", "(table b)", "1", "(table ab)", "3", "(table ba)", "4", "(table bb)", "'x'",
			"(union (table ab) (union (table a) (table ba)))", "2; 3; 4",
			"(union (table b) (table b))", "1 *2",
			"(filter (eq a \"x\") (table bb))", "'x'",
			"(filter b (table ba))", "4",
		)
		l = append(l[1:], l[0])
	}
}

// TestP111Many has a great many tables and rows, and a plan of many parts: it must not take long.
func TestP111Many(t *testing.T) {
	begin := time.Now()
	var l []eval.Table
	for i := range 100000 {
		name := []byte("aaaaa")
		for k := range name {
			name[k] = byte('a' + i%26)
			i /= 26
		}
		l = append(l, eval.Table{Name: string(name), Cols: []api.Col{{Name: "a", Kind: api.Int}}, Rows: many(2, 1)})
	}
	l = append(l, table("t: a Int", "1; 2 *3"), eval.Table{Name: "huge", Cols: []api.Col{{Name: "a", Kind: api.Int}}, Rows: many(300000, 1)})
	wide := "(table t)"
	for range 5 {
		wide = "(union " + wide + " " + wide + ")"
	}
	for s, want := range map[string]string{wide: "1 *32; 2 *96", "(table huge)": "ErrFull", "(union (table aaaaa) (table zzzaa))": "0 *2; 1 *2"} {
		if got := result(read(t, s), l); got != want {
			t.Errorf("of many tables: %s, not %s", got, want)
		}
	}
	l[0].Name = "t"
	if eval.Right(l) {
		t.Error("a name comes twice")
	}
	if took := time.Since(begin); took > 20*time.Second {
		t.Errorf("it took %v", took)
	}
}

// TestP111Joins joins tables of MaxOut rows over and over: it must not take long, and none of it all pairs.
func TestP111Joins(t *testing.T) {
	begin := time.Now()
	l := []eval.Table{{Name: "t", Cols: []api.Col{{Name: "a", Kind: api.Int}}, Rows: many(api.MaxOut, 1)}}
	power := "(table t)"
	for range 3 {
		power = "(join (a) (a) " + power + " " + power + ")"
	}
	pairs := "(join (b) (c) (project (b 1) (d a) (table t)) (project (c 1) (e a) (table t)))"
	for range 20 {
		if s, why := eval.Eval(read(t, power), l); why != api.OK || !zset.Same(s, l[0].Rows) {
			t.Fatalf("%s: %.200s", power, show(s))
		}
		if got := result(read(t, pairs), l); got != "ErrFull" {
			t.Fatalf("%s: %.200s", pairs, got)
		}
	}
	if took := time.Since(begin); took > 20*time.Second {
		t.Errorf("it took %v", took)
	}
}
