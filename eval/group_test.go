package eval_test

import (
	"fmt"
	"math"
	"math/big"
	"math/rand"
	"strings"
	"testing"

	"confluence/api"
	"confluence/eval"
	"confluence/zset"
)

func TestP111Group(t *testing.T) {
	l := []eval.Table{
		table("t: a Int, b Text, c Int", "-1 'x' 5; 1 'x' -7 *2; 1 'y' 3; 2 '' 9223372036854775807; 2 'x' 0 *4"),
		table("none: a Int, b Text", ""),
	}
	each(t, l,
		// Count.
		"(group () (n count) (table t))", "9",
		"(group (a) (n count) (table t))", "-1 1; 1 3; 2 5",
		"(group (b) (n count) (table t))", "'' 1; 'x' 7; 'y' 1",
		"(group (c) (n count) (table t))", "-7 2; 0 4; 3 1; 5 1; 9223372036854775807 1",
		"(group (a b) (n count) (table t))", "-1 'x' 1; 1 'x' 2; 1 'y' 1; 2 '' 1; 2 'x' 4",
		"(group (b a) (n count) (table t))", "'' 2 1; 'x' -1 1; 'x' 1 2; 'x' 2 4; 'y' 1 1",
		"(group (c a b) (n count) (table t))", "-7 1 'x' 2; 0 2 'x' 4; 3 1 'y' 1; 5 -1 'x' 1; 9223372036854775807 2 '' 1",
		"(group (a) (n count) (m count) (table t))", "-1 1 1; 1 3 3; 2 5 5",
		// No Aggs.
		"(group (a) (table t))", "-1; 1; 2",
		"(group (b) (table t))", "''; 'x'; 'y'",
		"(group (b a) (table t))", "'' 2; 'x' -1; 'x' 1; 'x' 2; 'y' 1",
		"(group (a b c) (table t))", "-1 'x' 5; 1 'x' -7; 1 'y' 3; 2 '' 9223372036854775807; 2 'x' 0",
		// Sum: each row counts as often as it is contained.
		"(group (a) (s sum c) (table t))", "-1 5; 1 -11; 2 9223372036854775807",
		"(group (b) (s sum a) (table t))", "'' 2; 'x' 9; 'y' 1",
		"(group () (s sum a) (table t))", "12",
		"(group (a) (s sum a) (table t))", "-1 -1; 1 3; 2 10",
		"(group () (s sum c) (filter (lt c 9) (table t)))", "-6",
		"(group () (s sum c) (table t))", "9223372036854775801",
		// The least and the greatest, of numbers and of texts.
		"(group (a) (l min c) (g max c) (table t))", "-1 5 5; 1 -7 3; 2 0 9223372036854775807",
		"(group (a) (g max c) (l min c) (table t))", "-1 5 5; 1 3 -7; 2 9223372036854775807 0",
		"(group (a) (l min b) (g max b) (table t))", "-1 'x' 'x'; 1 'x' 'y'; 2 '' 'x'",
		"(group () (l min b) (g max b) (table t))", "'' 'y'",
		"(group () (g max a) (l min a) (table t))", "2 -1",
		"(group (b) (l min b) (g max a) (k min a) (table t))", "'' '' 2 2; 'x' 'x' 2 -1; 'y' 'y' 1 1",
		// All at once, in the order in which they stand.
		"(group (a) (n count) (s sum c) (l min c) (g max b) (k min b) (table t))", "-1 1 5 5 'x' 'x'; 1 3 -11 -7 'y' 'x'; 2 5 9223372036854775807 0 'x' ''",
		"(group () (k min b) (g max b) (l min c) (s sum c) (n count) (m sum a) (table t))", "'' 'y' -7 9223372036854775801 9 12",
		// The name of a column that is not in Left may come again.
		"(group (a) (c sum c) (b count) (table t))", "-1 5 1; 1 -11 3; 2 9223372036854775807 5",
		"(group () (a max b) (b max a) (table t))", "'y' 2",
		// No rows, no groups.
		"(group () (n count) (table none))", "",
		"(group () (s sum a) (l min b) (g max b) (table none))", "",
		"(group (a) (table none))", "",
		"(group (a b) (n count) (s sum a) (table none))", "",
		"(group () (n count) (filter 0 (table t)))", "",
		"(group () (n count) (group () (n count) (table none)))", "",
		// Groups of groups.
		"(group () (n count) (group (a) (n count) (table t)))", "3",
		"(group () (n count) (group () (n count) (table t)))", "1",
		"(group (n) (m count) (group (b) (n count) (table t)))", "1 2; 7 1",
		"(group () (s sum n) (group (b) (n count) (table t)))", "9",
	)
	for _, c := range [][2]string{{"5", "5 1 5 5 5"}, {"5 *9", "5 9 45 5 5"}, {"-5 *512", "-5 512 -2560 -5 -5"}, {"5; 6 *3; 7 *2", "5 1 5 5 5; 6 3 18 6 6; 7 2 14 7 7"}} {
		each(t, one("a Int", c[0]), "(group (a) (n count) (s sum a) (l min a) (g max a) (table t))", c[1])
	}
	each(t, one("a Int", "5; 6 *3; 7 *2"), "(group () (n count) (s sum a) (l min a) (g max a) (table t))", "6 37 5 7")
}

// TestP111GroupTold holds groups against rows that differ in a part of Left only, and those that stand apart among the rows.
func TestP111GroupTold(t *testing.T) {
	each(t, one("a Int, b Int", "0 0; 0 1 *2; 0 2; 1 0 *3; 1 1; 2 0; 3 2 *4"),
		"(group (b) (n count) (s sum a) (table t))", "0 5 5; 1 3 1; 2 5 12",
		"(group (b) (table t))", "0; 1; 2",
		"(group (b a) (n count) (table t))", "0 0 1; 0 1 3; 0 2 1; 1 0 2; 1 1 1; 2 0 1; 2 3 4",
		"(group (a) (l min b) (g max b) (table t))", "0 0 2; 1 0 1; 2 0 0; 3 2 2",
	)
	each(t, one("a Text, b Text", "'' 'x'; 'a' 'b' *2; 'ab' '' *3; 'x' ''"),
		"(group (a b) (n count) (table t))", "'' 'x' 1; 'a' 'b' 2; 'ab' '' 3; 'x' '' 1",
		"(group (b a) (n count) (table t))", "'' 'ab' 3; '' 'x' 1; 'b' 'a' 2; 'x' '' 1",
		"(group (b) (l min a) (g max a) (table t))", "'' 'ab' 'x'; 'b' 'a' 'a'; 'x' '' ''",
		"(group () (l min a) (g max a) (k max b) (table t))", "'' 'x' 'x'",
	)
	// Numbers are not ordered as their digits are, and texts are.
	each(t, one("a Int, b Text", "-10 '9'; -9 '10'; 9 'B'; 10 'a'"), "(group () (l min a) (g max a) (k min b) (m max b) (table t))", "-10 10 '10' 'a'")
	each(t, one("a Int, b Text", "-9223372036854775808 'aa'; 9223372036854775807 'a'"), "(group () (l min a) (g max a) (k min b) (m max b) (table t))", "-9223372036854775808 9223372036854775807 'a' 'aa'")
	// The greatest number of groups, from rows in the reverse of their order.
	var rows, want []string
	for i := range api.MaxOut {
		rows = append(rows, fmt.Sprint(i, " ", api.MaxOut-i))
		want = append(want, fmt.Sprint(i+1, " ", api.MaxOut-1-i))
	}
	each(t, one("a Int, b Int", strings.Join(rows, "; ")), "(group (b) (s sum a) (table t))", strings.Join(want, "; "))
}

// TestP111GroupSum holds sums to the ends of the numbers.
func TestP111GroupSum(t *testing.T) {
	const least, greatest = "-9223372036854775808", "9223372036854775807"
	for rows, want := range map[string]string{
		"0":                                   "0",
		"0 *512":                              "0",
		"-1 *512":                             "-512",
		"1 *512":                              "512",
		greatest:                              greatest,
		least:                                 least,
		"0; " + greatest:                      greatest,
		"1; " + greatest:                      "ErrOver",
		"-1; 1; " + greatest:                  greatest,
		"-1; 2; " + greatest:                  "ErrOver",
		"-1; " + greatest:                     "9223372036854775806",
		least + "; -1":                        "ErrOver",
		least + "; 0":                         least,
		least + "; -1; 1":                     least,
		least + "; -1 *2; 1":                  "ErrOver",
		least + "; -1; 2":                     "-9223372036854775807",
		least + "; " + greatest:               "-1",
		least + "; 0 *3; " + greatest:         "-1",
		least + "; 1; " + greatest:            "0",
		least + " *2":                         "ErrOver",
		greatest + " *2":                      "ErrOver",
		"2; " + greatest + " *2":              "ErrOver",
		"1; " + greatest + " *2":              "ErrOver",
		greatest + " *512":                    "ErrOver",
		least + " *512":                       "ErrOver",
		least + " *2; " + greatest:            "ErrOver",
		least + " *2; 2; " + greatest + " *2": "0",
		least + "; " + greatest + " *2":       "9223372036854775806",
		least + "; 1; " + greatest + " *2":    greatest,
		least + "; 2; " + greatest + " *2":    "ErrOver",
		least + " *3; " + greatest + " *2":    "ErrOver",
		least + " *2; -9223372036854775807; " + greatest + " *2": "ErrOver",
		least + " *2; -9223372036854775806; " + greatest + " *2": least,
		least + " *256; " + greatest + " *256":                   "-256",
		least + " *255; " + greatest + " *256":                   "9223372036854775552",
		least + " *257; " + greatest + " *255":                   "ErrOver",
		least + " *255; " + greatest + " *257":                   "ErrOver",
		// 2^62, 2^63 / 3 and the like.
		"4611686018427387904":                                 "4611686018427387904",
		"4611686018427387904 *2":                              "ErrOver",
		"-1; 4611686018427387904 *2":                          greatest,
		"4611686018427387903 *2":                              "9223372036854775806",
		"1; 4611686018427387903 *2":                           greatest,
		"4611686018427387904 *4":                              "ErrOver",
		"4611686018427387904 *8":                              "ErrOver",
		"-4611686018427387904 *2":                             least,
		"-4611686018427387905 *2":                             "ErrOver",
		"-4611686018427387904 *2; -1":                         "ErrOver",
		"-4611686018427387904 *4":                             "ErrOver",
		"-4611686018427387904; 4611686018427387904 *2":        "4611686018427387904",
		"-4611686018427387904 *300; 4611686018427387904 *201": "ErrOver",
		"-4611686018427387904 *200; 4611686018427387904 *201": "4611686018427387904",
		"3074457345618258602 *3":                              "9223372036854775806",
		"3074457345618258603 *3":                              "ErrOver",
		"-3074457345618258602 *3; -2":                         least,
		"-3074457345618258602 *3; -3":                         "ErrOver",
		"18014398509481983 *512":                              "9223372036854775296",
		"18014398509481984 *512":                              "ErrOver",
		"18014398509481984 *511":                              "9205357638345293824",
		"-18014398509481984 *512":                             least,
		"-18014398509481985 *512":                             "ErrOver",
		// About the middle of the bits.
		"4294967295 *512":                      "2199023255040",
		"4294967296 *512":                      "2199023255552",
		"-4294967295 *512":                     "-2199023255040",
		"-4294967296 *512":                     "-2199023255552",
		"2147483648 *512":                      "1099511627776",
		"-2147483649 *3":                       "-6442450947",
		"-1; 4294967296":                       "4294967295",
		"-4294967296; 1":                       "-4294967295",
		"-4294967296 *2; -1 *2; 4294967297":    "-4294967297",
		"9223372032559808512; 4294967295":      greatest,
		"9223372032559808512; 4294967296":      "ErrOver",
		"-9223372036854775807; -1":             least,
		"-9223372032559808512; -4294967296":    least,
		"-9223372032559808512; -4294967297":    "ErrOver",
		"4294967295 *2; 9223372028264841218":   "ErrOver",
		"4294967295 *2; 9223372028264841217":   greatest,
		"-9223372028264841216; -4294967296 *2": least,
	} {
		l := one("a Int", ordered(rows))
		each(t, l,
			"(group () (s sum a) (table t))", want,
			"(filter 1 (group () (s sum a) (table t)))", want,
			"(group () (s sum b) (project (b a) (c 0) (table t)))", want,
			"(group (b) (s sum a) (project (a a) (b \"x\") (table t)))", strings.ReplaceAll("'x' "+want, "'x' E", "E"),
		)
	}
}

// ordered returns the rows of a text in their order.
func ordered(rows string) string {
	s, why := zset.Make(set(rows))
	if why != api.OK {
		panic(rows)
	}
	return show(s)
}

// TestP111GroupSums holds sums of numbers at random against big ones.
func TestP111GroupSums(t *testing.T) {
	x := rand.New(rand.NewSource(1))
	p := read(t, "(group () (n count) (s sum a) (l min a) (g max a) (table t))")
	over, within := 0, 0
	for range 20000 {
		var items []api.Item
		sum, count, room := new(big.Int), int64(0), 1+x.Intn(api.MaxOut)
		least, greatest := int64(math.MaxInt64), int64(math.MinInt64)
		for n := 1 + x.Intn(6); n > 0 && room > 0; n-- {
			a, often := edge(x), 1+x.Intn(room)
			if x.Intn(2) == 0 {
				often = 1
			}
			room -= often
			items = append(items, api.Item{Row: api.Row{num(a)}, T: complex(float64(often), 0)})
			sum.Add(sum, new(big.Int).Mul(big.NewInt(a), big.NewInt(int64(often))))
			count += int64(often)
			least, greatest = min(least, a), max(greatest, a)
		}
		want := "ErrOver"
		if sum.IsInt64() {
			want = fmt.Sprint(count, " ", sum, " ", least, " ", greatest)
			within++
		} else {
			over++
		}
		s, _ := zset.Make(items)
		l := []eval.Table{table("t: a Int", "")}
		l[0].Rows = s
		if got := result(p, l); got != want {
			t.Fatalf("of %s: %s, not %s", show(s), got, want)
		}
	}
	if over < 3000 || within < 3000 {
		t.Errorf("%d sums too great, %d within", over, within)
	}
}

// edge returns a number near a power of two, of either sign, or any.
func edge(x *rand.Rand) int64 {
	switch x.Intn(4) {
	case 0:
		return int64(x.Uint64())
	case 1:
		return int64(x.Intn(9)) - 4
	}
	n := int64(1)<<x.Intn(64) + int64(x.Intn(5)) - 2
	if x.Intn(2) == 0 {
		return -n
	}
	return n
}

// TestP111GroupOver has sums that are too great in one group or in several, for one of Aggs or for several.
func TestP111GroupOver(t *testing.T) {
	const fine, over = "1 *2", "9223372036854775807 *2"
	rows := func(parts ...string) []eval.Table {
		var l []string
		for i, s := range parts {
			l = append(l, fmt.Sprintf("%d %s", i, s))
		}
		return one("a Int, b Int", strings.Join(l, "; "))
	}
	for _, l := range [][]eval.Table{rows(over), rows(over, fine), rows(fine, over), rows(fine, over, fine), rows(over, over), rows(fine, fine, over), rows(over, fine, over, over)} {
		each(t, l,
			"(group (a) (s sum b) (table t))", "ErrOver",
			"(group (a) (n count) (s sum b) (l min b) (table t))", "ErrOver",
			"(group (a) (s sum a) (r sum b) (n count) (table t))", "ErrOver",
			"(group (a) (s sum b) (r sum b) (table t))", "ErrOver",
			"(group () (s sum b) (table t))", "ErrOver",
			"(filter 0 (group (a) (s sum b) (table t)))", "ErrOver",
			"(group (a) (s sum b) (filter (lt b 9) (table t)))", strings.Join(fineSums(l[0]), "; "),
			"(group (a b) (table t))", strings.ReplaceAll(show(l[0].Rows), " *2", ""),
		)
	}
	each(t, rows(fine, fine), "(group (a) (s sum b) (table t))", "0 2; 1 2")
}

// fineSums tells the groups of a table that are left without the great numbers.
func fineSums(t eval.Table) []string {
	var l []string
	for _, x := range t.Rows {
		if x.Row[1].N == 1 {
			l = append(l, fmt.Sprintf("%d 2", x.Row[0].N))
		}
	}
	return l
}
