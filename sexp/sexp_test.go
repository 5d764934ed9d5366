package sexp_test

import (
	"fmt"
	"math"
	"math/rand"
	"slices"
	"strconv"
	"strings"
	"testing"

	"confluence/api"
	"confluence/sexp"
	"confluence/value"
)

var longest = strings.Repeat("z", api.MaxText)

func open(at int, kids ...sexp.Tree) sexp.Tree {
	return sexp.Tree{Kind: sexp.Open, Kids: kids, At: at}
}

func atom(at int, s string) sexp.Tree { return sexp.Tree{Kind: sexp.Atom, S: s, At: at} }

func num(at int, n int64) sexp.Tree { return sexp.Tree{Kind: sexp.Num, N: n, At: at} }

func str(at int, s string) sexp.Tree { return sexp.Tree{Kind: sexp.Str, S: s, At: at} }

// nest returns n brackets, each in the one before it, the first at an offset.
func nest(at, n int) sexp.Tree {
	t := open(at + n - 1)
	for n--; n > 0; n-- {
		t = open(at+n-1, t)
	}
	return t
}

// same compares everything of two trees. A list of no Kids may be nil or not.
func same(a, b sexp.Tree) bool {
	return a.Kind == b.Kind && a.S == b.S && a.N == b.N && a.At == b.At && slices.EqualFunc(a.Kids, b.Kids, same)
}

// moved returns a copy of t with all offsets 0.
func moved(t sexp.Tree) sexp.Tree {
	c := sexp.Tree{Kind: t.Kind, S: t.S, N: t.N}
	for _, kid := range t.Kids {
		c.Kids = append(c.Kids, moved(kid))
	}
	return c
}

func tell(t sexp.Tree) string { return fmt.Sprintf("%.400s", fmt.Sprintf("%+q", fmt.Sprint(t))) }

// reads checks that Read of s is a tree.
func reads(t *testing.T, s string, want sexp.Tree) {
	t.Helper()
	got, why, at := sexp.Read(s)
	if why != api.OK || at != 0 {
		t.Errorf("Read(%+q): error %d at %d", s, why, at)
	} else if !same(got, want) {
		t.Errorf("Read(%+q): %s, not %s", s, tell(got), tell(want))
	}
}

// fails checks that Read of s is an error.
func fails(t *testing.T, s string, why api.Errno, at int) {
	t.Helper()
	got, w, a := sexp.Read(s)
	if w != why || a != at {
		t.Errorf("Read(%+q): error %d at %d, not %d at %d", s, w, a, why, at)
	}
	if w != api.OK && (got.Kind != 0 || got.S != "" || got.N != 0 || len(got.Kids) > 0 || got.At != 0) {
		t.Errorf("Read(%+q): %s beside error %d", s, tell(got), w)
	}
}

func TestP71ReadOfTheExamples(t *testing.T) {
	reads(t, `(a -3 "x\22")`, open(0, atom(1, "a"), num(3, -3), str(6, `x"`)))
	fails(t, `(`, api.ErrEnd, 1)
	fails(t, `)`, api.ErrForm, 0)
	fails(t, `a b`, api.ErrTail, 2)
	fails(t, `3a`, api.ErrTail, 1)
	fails(t, `-`, api.ErrForm, 0)
	fails(t, `--1`, api.ErrForm, 0)
}

func TestP71ReadOfEachKindAlone(t *testing.T) {
	reads(t, "a", atom(0, "a"))
	reads(t, "table", atom(0, "table"))
	reads(t, "0", num(0, 0))
	reads(t, "42", num(0, 42))
	reads(t, "-42", num(0, -42))
	reads(t, `""`, str(0, ""))
	reads(t, `"a b"`, str(0, "a b"))
	reads(t, "()", open(0))
	reads(t, "(())", open(0, open(1)))
	reads(t, "(a)", open(0, atom(1, "a")))
	reads(t, "(7)", open(0, num(1, 7)))
	reads(t, `("")`, open(0, str(1, "")))
}

func TestP71ReadOfAPlan(t *testing.T) {
	reads(t, "(filter (lt a 5)\n  (table t))", open(0, atom(1, "filter"), open(8, atom(9, "lt"), atom(12, "a"), num(14, 5)), open(19, atom(20, "table"), atom(26, "t"))))
	reads(t, `(group () (n count) (table t))`, open(0, atom(1, "group"), open(7), open(10, atom(11, "n"), atom(13, "count")), open(20, atom(21, "table"), atom(27, "t"))))
}

func TestP71KidsStandInTheirOrder(t *testing.T) {
	reads(t, `(c 3 "b" () a 1 (x (y) z) "" -2)`, open(0, atom(1, "c"), num(3, 3), str(5, "b"), open(9), atom(12, "a"), num(14, 1), open(16, atom(17, "x"), open(19, atom(20, "y")), atom(23, "z")), str(26, ""), num(29, -2)))
	reads(t, "(()(()())((())()))", open(0, open(1), open(3, open(4), open(6)), open(9, open(10, open(11)), open(14))))
	for n := range 200 {
		var kids []sexp.Tree
		for i := range n {
			kids = append(kids, num(1+2*i, int64(i%10)))
		}
		s := "("
		for i := range n {
			s += strconv.Itoa(i%10) + " "
		}
		reads(t, s+")", open(0, kids...))
	}
}

func TestP71BlanksAndLineFeeds(t *testing.T) {
	for _, gap := range []string{" ", "\n", "  ", "\n\n", " \n", "\n ", " \n \n\n  ", strings.Repeat(" ", 100), strings.Repeat("\n", 100)} {
		g := len(gap)
		fails(t, gap, api.ErrEnd, g)
		reads(t, gap+"a", atom(g, "a"))
		reads(t, "a"+gap, atom(0, "a"))
		reads(t, gap+"12"+gap, num(g, 12))
		reads(t, gap+`"x"`+gap, str(g, "x"))
		reads(t, gap+"("+gap+")"+gap, open(g))
		reads(t, "("+gap+"a"+gap+"3"+gap+`"x"`+gap+")", open(0, atom(1+g, "a"), num(2+2*g, 3), str(3+3*g, "x")))
		reads(t, "(a"+gap+"b"+gap+"1"+gap+"2)", open(0, atom(1, "a"), atom(2+g, "b"), num(3+2*g, 1), num(4+3*g, 2)))
		fails(t, "("+gap, api.ErrEnd, 1+g)
		fails(t, "a"+gap+"b", api.ErrTail, 1+g)
		fails(t, gap+")", api.ErrForm, g)
		fails(t, gap+"-"+gap+"1", api.ErrForm, g)
	}
	reads(t, `(" a  b ")`, open(0, str(1, " a  b ")))
}

func TestP71TokensWithoutBlanksBetween(t *testing.T) {
	reads(t, `(a"x"3(b)-4c"""y"5"z"d)`, open(0, atom(1, "a"), str(2, "x"), num(5, 3), open(6, atom(7, "b")), num(9, -4), atom(11, "c"), str(12, ""), str(14, "y"), num(17, 5), str(18, "z"), atom(21, "d")))
	reads(t, "(1-2-3)", open(0, num(1, 1), num(2, -2), num(4, -3)))
	reads(t, "(a-1b2)", open(0, atom(1, "a"), num(2, -1), atom(4, "b"), num(5, 2)))
	reads(t, `((a)(1)("")())`, open(0, open(1, atom(2, "a")), open(4, num(5, 1)), open(7, str(8, "")), open(11)))
}

// beginners are the bytes that can begin a token.
const beginners = `()"-0123456789abcdefghijklmnopqrstuvwxyz`

func TestP71EachByteThatCannotBeginAToken(t *testing.T) {
	for b := range 256 {
		c := string([]byte{byte(b)})
		if strings.Contains(beginners+" \n", c) {
			continue
		}
		fails(t, c, api.ErrForm, 0)
		fails(t, "  "+c, api.ErrForm, 2)
		fails(t, "a"+c, api.ErrForm, 1)
		fails(t, "12"+c+"3", api.ErrForm, 2)
		fails(t, "-"+c, api.ErrForm, 0)
		fails(t, `"x"`+c, api.ErrForm, 3)
		fails(t, "()"+c, api.ErrForm, 2)
		fails(t, "a "+c+"a", api.ErrForm, 2)
		fails(t, "("+c, api.ErrForm, 1)
		fails(t, "("+c+")", api.ErrForm, 1)
		fails(t, "(a "+c+" b)", api.ErrForm, 3)
		fails(t, "(a b"+c+")", api.ErrForm, 4)
		fails(t, "(a (b (1"+c+"2)))", api.ErrForm, 8)
	}
}

func TestP71EachByteThatBeginsAToken(t *testing.T) {
	for _, b := range []byte(beginners) {
		c := string([]byte{b})
		_, why, at := sexp.Read(c)
		switch b {
		case '(', '"':
			fails(t, c, api.ErrEnd, 1)
		case ')', '-':
			fails(t, c, api.ErrForm, 0)
		default:
			if why != api.OK || at != 0 {
				t.Errorf("%q: error %d at %d", c, why, at)
			}
		}
	}
}

func TestP71Atoms(t *testing.T) {
	const letters = "abcdefghijklmnopqrstuvwxyz"
	for _, c := range letters {
		reads(t, string(c), atom(0, string(c)))
		reads(t, "m"+string(c)+"m", atom(0, "m"+string(c)+"m"))
	}
	reads(t, letters, atom(0, letters))
	reads(t, "("+letters+" "+letters+")", open(0, atom(1, letters), atom(28, letters)))
	long := strings.Repeat("q", api.MaxPlan)
	reads(t, long, atom(0, long))
	reads(t, "("+long[2:]+")", open(0, atom(1, long[2:])))
	fails(t, "A", api.ErrForm, 0)
	fails(t, "aB", api.ErrForm, 1)
	fails(t, "(a_b)", api.ErrForm, 2)
	fails(t, "(ä)", api.ErrForm, 1)
	fails(t, "a`", api.ErrForm, 1)
	fails(t, "a{", api.ErrForm, 1)
}

func TestP71EmptyBrackets(t *testing.T) {
	reads(t, "()", open(0))
	reads(t, "( )", open(0))
	reads(t, "(()a())", open(0, open(1), atom(3, "a"), open(4)))
	got, _, _ := sexp.Read("(a ())")
	if len(got.Kids) != 2 || got.Kids[1].Kind != sexp.Open || len(got.Kids[1].Kids) > 0 {
		t.Error(tell(got))
	}
}

func TestP71Brackets(t *testing.T) {
	for n := 1; n <= api.MaxDeep; n++ {
		opened, closed := strings.Repeat("(", n), strings.Repeat(")", n)
		reads(t, opened+closed, nest(0, n))
		fails(t, opened, api.ErrEnd, n)
		fails(t, opened+closed[1:], api.ErrEnd, 2*n-1)
		fails(t, opened+closed[1:]+" \n", api.ErrEnd, 2*n+1)
		fails(t, opened+closed+")", api.ErrForm, 2*n)
		fails(t, opened+closed+" (", api.ErrTail, 2*n+1)
	}
	fails(t, "(a", api.ErrEnd, 2)
	fails(t, "(a (b) ", api.ErrEnd, 7)
	fails(t, "((a) b", api.ErrEnd, 6)
}

func TestP71MaxDeepBracketsAreOpen(t *testing.T) {
	most := strings.Repeat("(", api.MaxDeep)
	fails(t, most+"(", api.ErrDeep, api.MaxDeep)
	fails(t, most+"(((", api.ErrDeep, api.MaxDeep)
	fails(t, most+"("+strings.Repeat(")", api.MaxDeep+1), api.ErrDeep, api.MaxDeep)
	fails(t, most+" a 1 \"x\" (", api.ErrDeep, api.MaxDeep+9)
	fails(t, most+") (", api.ErrEnd, api.MaxDeep+3)
	fails(t, most+")((", api.ErrDeep, api.MaxDeep+2)
	fails(t, most+"))(()(", api.ErrEnd, api.MaxDeep+6)
	fails(t, most+"))(()((", api.ErrDeep, api.MaxDeep+6)
	fails(t, " "+most[1:]+" (a (b", api.ErrDeep, api.MaxDeep+4)
	fails(t, most+"($", api.ErrDeep, api.MaxDeep)
	fails(t, most+"$(", api.ErrForm, api.MaxDeep)
}

func TestP71BracketsThatWereClosedCountNoMore(t *testing.T) {
	deep := func(n int) string { return strings.Repeat("(", n) + strings.Repeat(")", n) }
	// Twenty brackets, one behind the other, ahead of those that go down to the bound.
	head := "(" + strings.Repeat("()", 20)
	kids := []sexp.Tree{}
	for i := range 20 {
		kids = append(kids, open(1+2*i))
	}
	most := api.MaxDeep - 1
	reads(t, head+deep(most)+")", open(0, append(kids, nest(len(head), most))...))
	fails(t, head+deep(most+1)+")", api.ErrDeep, len(head)+most)
	reads(t, "("+deep(most)+deep(most)+")", open(0, nest(1, most), nest(1+2*most, most)))
	fails(t, "("+deep(most)+deep(most+1)+")", api.ErrDeep, 1+3*most)
	fails(t, deep(api.MaxDeep)+"(", api.ErrTail, 2*api.MaxDeep)
	fails(t, deep(1)+strings.Repeat("(", api.MaxDeep+1), api.ErrTail, 2)
}

func TestP71Numbers(t *testing.T) {
	zeros := strings.Repeat("0", 300)
	for s, want := range map[string]int64{
		"0": 0, "-0": 0, "00": 0, "-00": 0, "1": 1, "-1": -1, "9": 9, "10": 10, "-10": -10, "007": 7, "-007": -7, "1234567890": 1234567890,
		"9223372036854775807":           math.MaxInt64,
		"9223372036854775806":           math.MaxInt64 - 1,
		"9223372036854775799":           9223372036854775799,
		"-9223372036854775808":          math.MinInt64,
		"-9223372036854775807":          -math.MaxInt64,
		"999999999999999999":            999999999999999999,
		"-999999999999999999":           -999999999999999999,
		"1000000000000000000":           1e18,
		zeros:                           0,
		"-" + zeros:                     0,
		zeros + "5":                     5,
		"-" + zeros + "5":               -5,
		zeros + "9223372036854775807":   math.MaxInt64,
		"-0009223372036854775808":       math.MinInt64,
		"-" + zeros + "123456789012345": -123456789012345,
	} {
		reads(t, s, num(0, want))
		reads(t, "(a "+s+" b)", open(0, atom(1, "a"), num(3, want), atom(4+len(s), "b")))
	}
	for d := range 10 {
		reads(t, strconv.Itoa(d), num(0, int64(d)))
		reads(t, "-1"+strconv.Itoa(d), num(0, int64(-10-d)))
	}
}

// outOfRange are numbers beyond both ends, also far beyond, where a number that has wrapped round may look right.
var outOfRange = []string{
	"9223372036854775808", "9223372036854775809", "9223372036854775810", "9223372036854775817", "9300000000000000000", "9999999999999999999", "10000000000000000000",
	"-9223372036854775809", "-9223372036854775810", "-9223372036854775818", "-9300000000000000000", "-9999999999999999999", "-10000000000000000000",
	"18446744073709551615", "18446744073709551616", "18446744073709551617", "-18446744073709551616", "-18446744073709551617", "36893488147419103232", "92233720368547758070", "-92233720368547758080",
	"340282366920938463463374607431768211457", "0009223372036854775808", "-0009223372036854775809", "00018446744073709551617",
	strings.Repeat("9", 200), "-" + strings.Repeat("9", 200), "1" + strings.Repeat("0", 200), "-1" + strings.Repeat("0", 200),
}

func TestP71NumbersThatAreOutOfRange(t *testing.T) {
	for _, s := range outOfRange {
		fails(t, s, api.ErrForm, 0)
		fails(t, "\n"+s, api.ErrForm, 1)
		fails(t, "("+s+")", api.ErrForm, 1)
		fails(t, "("+s, api.ErrForm, 1)
		fails(t, "(a 5 "+s+" b)", api.ErrForm, 5)
		fails(t, "(a (b 5 "+s+"))", api.ErrForm, 8)
		fails(t, "(a "+s+"$)", api.ErrForm, 3)
		fails(t, s+" "+s, api.ErrForm, 0)
	}
}

func TestP71AMinusWithoutDigits(t *testing.T) {
	for _, rest := range []string{"", " ", " 1", "\n1", "-", "-1", "a", "(", ")", `"1"`, "\x00", "$", "\\1"} {
		fails(t, "-"+rest, api.ErrForm, 0)
		fails(t, "(-"+rest, api.ErrForm, 1)
		fails(t, "(a 1 -"+rest+" b)", api.ErrForm, 5)
		fails(t, "(a (b c-"+rest+"))", api.ErrForm, 7)
	}
	fails(t, "(1-)", api.ErrForm, 2)
	fails(t, "(1--2)", api.ErrForm, 2)
	fails(t, "(-1-)", api.ErrForm, 3)
	fails(t, "+1", api.ErrForm, 0)
	fails(t, "1.5", api.ErrForm, 1)
	fails(t, "(1_000)", api.ErrForm, 2)
	reads(t, "(0x10)", open(0, num(1, 0), atom(2, "x"), num(3, 10)))
	reads(t, "(1e5)", open(0, num(1, 1), atom(2, "e"), num(3, 5)))
}

func TestP71EachByteOfAText(t *testing.T) {
	for b := range 256 {
		c := string([]byte{byte(b)})
		reads(t, fmt.Sprintf(`"\%02x"`, b), str(0, c))
		reads(t, fmt.Sprintf(`"x\%02x\%02xy"`, b, b), str(0, "x"+c+c+"y"))
		switch {
		case c == `"` || c == `\`:
		case 32 <= b && b <= 126:
			reads(t, `"`+c+`"`, str(0, c))
			reads(t, `("a`+c+`b" x)`, open(0, str(1, "a"+c+"b"), atom(7, "x")))
		default:
			fails(t, `"`+c+`"`, api.ErrForm, 1)
			fails(t, `"`+c, api.ErrForm, 1)
			fails(t, `"a`+c+`b"`, api.ErrForm, 2)
			fails(t, `("ab" "ab`+c+`")`, api.ErrForm, 9)
			fails(t, `("\61`+c+`")`, api.ErrForm, 5)
		}
	}
}

func TestP71TextsHoldTokensAsTheyAre(t *testing.T) {
	reads(t, `("(a) -1 )(")`, open(0, str(1, "(a) -1 )(")))
	reads(t, `"$ABC_[]{}'"`, str(0, "$ABC_[]{}'"))
	reads(t, `(a "b" c "d")`, open(0, atom(1, "a"), str(3, "b"), atom(7, "c"), str(9, "d")))
	reads(t, `"\5c22"`, str(0, `\22`))
	reads(t, `"\5c\22"`, str(0, `\"`))
	reads(t, `"\414"`, str(0, "A4"))
	reads(t, `"\0a\c3\a4"`, str(0, "\nä"))
}

func TestP71BothDigitsOfAnEscape(t *testing.T) {
	const digits = "0123456789abcdef"
	for b := range 256 {
		c := string([]byte{byte(b)})
		if strings.Contains(digits, c) {
			continue
		}
		for _, head := range []string{`"`, `"a`, `(a "bc\00`, `("x" "\ff`} {
			fails(t, head+`\`+c, api.ErrForm, len(head))
			fails(t, head+`\`+c+`0"`, api.ErrForm, len(head))
			fails(t, head+`\0`+c, api.ErrForm, len(head))
			fails(t, head+`\0`+c+`"`, api.ErrForm, len(head))
			fails(t, head+`\f`+c+`0" a)`, api.ErrForm, len(head))
		}
	}
	for h := range 16 {
		for l := range 16 {
			reads(t, `"\`+digits[h:h+1]+digits[l:l+1]+`"`, str(0, string([]byte{byte(16*h + l)})))
		}
	}
}

func TestP71TextsThatEndTooSoon(t *testing.T) {
	for _, s := range []string{`"`, `"a`, `"a b`, `"\`, `"\2`, `"\22`, `"abc\`, `"abc\f`, `"abc\ff`, `"\22\`, `"\22\2`, `("`, `(a "b`, `(a "b\`, `(a "b\2`, `("a" "`, `("a" "b)`, `(a ("b\5c`, `("""`, `"` + longest, `"` + longest + "z", `"` + longest + longest + `\`, `"` + strings.Repeat(`\7a`, 100) + `\7`} {
		fails(t, s, api.ErrEnd, len(s))
		fails(t, "\n "+s, api.ErrEnd, len(s)+2)
	}
}

func TestP71TextsOfMaxTextBytes(t *testing.T) {
	for n := range 3 * api.MaxText {
		for _, c := range []struct{ wrote, means string }{{"z", "z"}, {`\7a`, "z"}, {`\22`, `"`}, {`\5c`, `\`}, {`\ff`, "\xff"}, {" ", " "}, {")", ")"}} {
			s, means := strings.Repeat(c.wrote, n), strings.Repeat(c.means, n)
			if n <= api.MaxText {
				reads(t, `"`+s+`"`, str(0, means))
				reads(t, `(a "`+s+`" b)`, open(0, atom(1, "a"), str(3, means), atom(6+len(s), "b")))
				continue
			}
			fails(t, `"`+s+`"`, api.ErrLong, 0)
			fails(t, ` "`+s+`"`, api.ErrLong, 1)
			fails(t, `("`+s+`")`, api.ErrLong, 1)
			fails(t, `(a "" "`+s+`" b)`, api.ErrLong, 6)
			fails(t, `(a ("`+s+`"`, api.ErrLong, 4)
			fails(t, `(a "`+s+`" $)`, api.ErrLong, 3)
		}
	}
	mixed := strings.Repeat(`x\00`, api.MaxText/2)
	reads(t, `"`+mixed+`"`, str(0, strings.Repeat("x\x00", api.MaxText/2)))
	fails(t, `"`+mixed+`\00"`, api.ErrLong, 0)
	fails(t, `"`+mixed+`x"`, api.ErrLong, 0)
}

func TestP71TextsThatAreTooLongAndWrong(t *testing.T) {
	for _, head := range []string{`"`, `(a "`, `("" ("`} {
		for _, n := range []int{0, 1, api.MaxText - 1, api.MaxText, api.MaxText + 1, api.MaxText + 2, 2 * api.MaxText} {
			s := head + strings.Repeat("x", n)
			long := strings.Repeat("y", 2*api.MaxText)
			fails(t, s+`\zz`+long+`"`, api.ErrForm, len(s))
			fails(t, s+`\2`+`"`, api.ErrForm, len(s))
			fails(t, s+`\2A`+long+`"`, api.ErrForm, len(s))
			fails(t, s+"\n"+long+`"`, api.ErrForm, len(s))
			fails(t, s+"\x7f"+long, api.ErrForm, len(s))
			fails(t, s+"\xff"+long+`\`, api.ErrForm, len(s))
			fails(t, s+long, api.ErrEnd, len(s+long))
			fails(t, s+long+`\2`, api.ErrEnd, len(s+long)+2)
			fails(t, s+long+`\2\22"`, api.ErrForm, len(s+long))
		}
	}
}

func TestP71ReadOfMaxPlanBytes(t *testing.T) {
	for _, whole := range []string{"a", "-5", `"x"`, "()", "(a b)", "((a) 1 \"\")"} {
		want, why, _ := sexp.Read(whole)
		if why != api.OK {
			t.Fatal(whole)
		}
		gap := strings.Repeat(" ", api.MaxPlan-len(whole))
		reads(t, whole+gap, want)
		got, why, at := sexp.Read(gap + whole)
		if why != api.OK || at != 0 || got.At != len(gap) || !same(moved(got), moved(want)) {
			t.Errorf("%s: %s, error %d at %d", whole, tell(got), why, at)
		}
		fails(t, whole+gap+" ", api.ErrLong, 0)
		fails(t, whole+gap+"\n", api.ErrLong, 0)
		fails(t, " "+whole+gap, api.ErrLong, 0)
		fails(t, whole+gap+gap+gap, api.ErrLong, 0)
	}
	blanks := strings.Repeat(" ", api.MaxPlan)
	fails(t, blanks, api.ErrEnd, api.MaxPlan)
	fails(t, blanks+" ", api.ErrLong, 0)
	fails(t, blanks[1:]+"$", api.ErrForm, api.MaxPlan-1)
	fails(t, blanks[1:]+"(", api.ErrEnd, api.MaxPlan)
	fails(t, blanks[1:]+`"`, api.ErrEnd, api.MaxPlan)
	fails(t, "a"+blanks[2:]+"b", api.ErrTail, api.MaxPlan-1)
}

func TestP71TooManyBytesCountAheadOfAllElse(t *testing.T) {
	for _, s := range []string{"", "a", "$", ")", "(", "a b", "-", "\"", strings.Repeat("(", api.MaxDeep+1), `"` + longest + `z"`, outOfRange[0], `"\zz"`} {
		for _, n := range []int{1, 2, api.MaxPlan, 70000} {
			fails(t, s+strings.Repeat(" ", api.MaxPlan-len(s)+n), api.ErrLong, 0)
			fails(t, strings.Repeat("\n", api.MaxPlan-len(s)+n)+s, api.ErrLong, 0)
		}
	}
	fails(t, strings.Repeat("(", 1<<20), api.ErrLong, 0)
	fails(t, strings.Repeat("a", api.MaxPlan+1), api.ErrLong, 0)
}

func TestP71AShutBracketWithoutAnOpenOne(t *testing.T) {
	fails(t, ")", api.ErrForm, 0)
	fails(t, " \n)", api.ErrForm, 2)
	fails(t, ")a", api.ErrForm, 0)
	fails(t, ")(", api.ErrForm, 0)
	fails(t, ")(a)", api.ErrForm, 0)
	fails(t, "))", api.ErrForm, 0)
	fails(t, "a)", api.ErrForm, 1)
	fails(t, "a )", api.ErrForm, 2)
	fails(t, "-12)", api.ErrForm, 3)
	fails(t, `"x")`, api.ErrForm, 3)
	fails(t, "(a))", api.ErrForm, 3)
	fails(t, "(a) )", api.ErrForm, 4)
	fails(t, "(a (b)))", api.ErrForm, 7)
	fails(t, "(a)) b", api.ErrForm, 3)
	fails(t, "(a))(", api.ErrForm, 3)
	fails(t, "(a)))", api.ErrForm, 3)
}

// firsts are complete trees, of every Kind.
var firsts = []string{"a", "abc", "0", "-12", `""`, `"x y"`, "()", "(a)", "(a (b 1) ())", strings.Repeat("(", api.MaxDeep) + strings.Repeat(")", api.MaxDeep)}

func TestP71AFurtherTokenBehindACompleteTree(t *testing.T) {
	for _, first := range firsts {
		for _, gap := range []string{" ", "\n", " \n  "} {
			at := len(first + gap)
			for _, next := range []string{"a", "z", "abc", "0", "9", "12", "-1", "9223372036854775807", "-9223372036854775808", `""`, `"x"`, `"` + longest + `"`, "(", "()", "(a)", "((", "(a"} {
				for _, rest := range []string{"", " ", " b", " $", " )", "(", ")"} {
					fails(t, first+gap+next+rest, api.ErrTail, at)
				}
			}
		}
	}
	fails(t, "()a", api.ErrTail, 2)
	fails(t, "()()", api.ErrTail, 2)
	fails(t, "(a)1", api.ErrTail, 3)
	fails(t, `""""`, api.ErrTail, 2)
	fails(t, `"a"b`, api.ErrTail, 3)
	fails(t, `a"b"`, api.ErrTail, 1)
	fails(t, "a(b)", api.ErrTail, 1)
	fails(t, "a1", api.ErrTail, 1)
	fails(t, "a-1", api.ErrTail, 1)
	fails(t, "1-1", api.ErrTail, 1)
	fails(t, "1 2 3", api.ErrTail, 2)
}

// What is wrong at the beginning of the further token is named ahead of ErrTail, and what is wrong within it stands behind ErrTail.
func TestP71AFurtherTokenThatIsWrong(t *testing.T) {
	long := strings.Repeat("y", api.MaxText+1)
	for _, first := range firsts {
		s := first + " "
		at := len(s)
		for _, bad := range append([]string{"-", "--1", "-a", "- 1", "$", "A", "\t", "\x00", "\xff", ")", ")a"}, outOfRange...) {
			fails(t, s+bad, api.ErrForm, at)
			fails(t, s+bad+" b", api.ErrForm, at)
		}
		fails(t, s+`"`+long+`"`, api.ErrLong, at)
		fails(t, s+`"`+long+`" b`, api.ErrLong, at)
		for _, bad := range []string{`"`, `"x`, `"\`, `"\2`, `"\zz"`, `"x\2"`, "\"\n\"", "\"x\x7f\"", `"` + long, `"` + long + `\zz"`, `"` + long + "\n\"", `"` + long + `\`} {
			fails(t, s+bad, api.ErrTail, at)
		}
		fails(t, s+strings.Repeat("(", api.MaxDeep+1), api.ErrTail, at)
		fails(t, s+"($", api.ErrTail, at)
		fails(t, s+"a$", api.ErrTail, at)
	}
}

// faults are tokens that are wrong wherever a tree is awaited, and where they are.
var faults = []struct {
	s   string
	why api.Errno
	at  int
}{
	{"$", api.ErrForm, 0},
	{"\t", api.ErrForm, 0},
	{"-", api.ErrForm, 0},
	{"9223372036854775808", api.ErrForm, 0},
	{"-9223372036854775809", api.ErrForm, 0},
	{`"ab\zz"`, api.ErrForm, 3},
	{`"ab\2g"`, api.ErrForm, 3},
	{"\"abc\n\"", api.ErrForm, 4},
	{"\"abc\x7f\"", api.ErrForm, 4},
	{`"` + longest + `z"`, api.ErrLong, 0},
}

func TestP71TheFirstErrorFromLeftToRight(t *testing.T) {
	for _, x := range faults {
		for _, head := range []string{"", " \n", "(", "(a ", "(a (b) 1 \"x\" ", "((((", "(() ", strings.Repeat("(", api.MaxDeep)} {
			for _, rest := range []string{"", " ", " )", " a)", " $", " -", " (", " \"", strings.Repeat(" (", api.MaxDeep+1)} {
				fails(t, head+x.s+rest, x.why, len(head)+x.at)
			}
			for _, y := range faults {
				fails(t, head+x.s+" "+y.s, x.why, len(head)+x.at)
			}
		}
		fails(t, ") "+x.s, api.ErrForm, 0)
		fails(t, "(a)) "+x.s, api.ErrForm, 3)
		fails(t, "a b "+x.s, api.ErrTail, 2)
		fails(t, strings.Repeat("(", api.MaxDeep+1)+x.s, api.ErrDeep, api.MaxDeep)
	}
}

func TestP71EveryBeginningOfATreeEndsTooSoon(t *testing.T) {
	const whole = "\n(a -3 (\"x\\22\" ()) bc \"\" (12 \"\\00\") ) "
	if _, why, _ := sexp.Read(whole); why != api.OK {
		t.Fatal(why)
	}
	for n := range len(whole) - 1 {
		if whole[:n] != "\n(a -" {
			fails(t, whole[:n], api.ErrEnd, n)
		} else {
			fails(t, whole[:n], api.ErrForm, 4)
		}
	}
}

func TestP71ReadKeepsNothing(t *testing.T) {
	const s = `(a (b 1) "x" (c (d) 2))`
	want := open(0, atom(1, "a"), open(3, atom(4, "b"), num(6, 1)), str(9, "x"), open(13, atom(14, "c"), open(16, atom(17, "d")), num(20, 2)))
	for range 3 {
		got, why, at := sexp.Read(s)
		if why != api.OK || at != 0 || !same(got, want) {
			t.Fatalf("%s, error %d at %d", tell(got), why, at)
		}
		other, _, _ := sexp.Read("((((e) f) g) h)")
		spoil(&got, 1)
		if !same(other, open(0, open(1, open(2, open(3, atom(4, "e")), atom(7, "f")), atom(10, "g")), atom(13, "h"))) {
			t.Fatalf("spoilt with another: %s", tell(other))
		}
	}
	fails(t, "(a", api.ErrEnd, 2)
	reads(t, "b", atom(0, "b"))
}

// spoil turns everything of t, also what its lists have room for.
func spoil(t *sexp.Tree, n int64) {
	kids := t.Kids[:cap(t.Kids)]
	for i := range kids {
		spoil(&kids[i], n)
	}
	t.Kind, t.S, t.N, t.At = 9, "spoilt", n, -1
}

// lists returns all lists of Kids in t, to the end of their room.
func lists(t sexp.Tree) [][]sexp.Tree {
	all := [][]sexp.Tree{t.Kids[:cap(t.Kids)]}
	for _, kid := range t.Kids {
		all = append(all, lists(kid)...)
	}
	return all
}

func TestP71NoTwoListsOfATreeShareMemory(t *testing.T) {
	for _, s := range []string{
		"(() () ())",
		"((a b c))",
		"(((a b c)))",
		"((a b c d e) f)",
		"(((a b c d e f g h i) j) k l)",
		"(a (b c d) (e f g h i) j (k) l m)",
		"((a b c) (d e f) (g h i) (j k l m n))",
		"(((a) b) ((c) d) (((e) f g) h) i)",
		strings.Repeat("(a ", api.MaxDeep) + strings.Repeat("b c)", api.MaxDeep),
	} {
		tree, why, _ := sexp.Read(s)
		if why != api.OK {
			t.Fatal(s)
		}
		all := lists(tree)
		// Nothing is written but the mark, so that the lists stay where they are.
		for i, l := range all {
			for k := range l {
				l[k].N = int64(i)
			}
		}
		for i, l := range all {
			for k := range l {
				if l[k].N != int64(i) {
					t.Errorf("%s: list %d is part of list %d", s, i, l[k].N)
				}
			}
		}
	}
}

func prints(t *testing.T, x sexp.Tree, want string) {
	t.Helper()
	if got := sexp.Print(x); got != want {
		t.Errorf("Print of %s: %+q, not %+q", tell(x), got, want)
	}
}

func TestP72PrintOfAtoms(t *testing.T) {
	for _, s := range []string{"a", "table", "", "A b", "3", "(", "$", "\x00\xff", "a\"b", longest + longest, strings.Repeat("q", api.MaxPlan+1)} {
		prints(t, atom(0, s), s)
		prints(t, open(0, atom(0, s), atom(0, s)), "("+s+" "+s+")")
	}
}

func TestP72PrintOfNumbers(t *testing.T) {
	for _, n := range []int64{0, 1, -1, 7, 10, -10, 1 << 53, math.MaxInt64 - 1, math.MaxInt64, math.MinInt64, math.MinInt64 + 1} {
		prints(t, num(0, n), strconv.FormatInt(n, 10))
		prints(t, open(0, num(3, n)), "("+strconv.FormatInt(n, 10)+")")
	}
}

func TestP72PrintOfTexts(t *testing.T) {
	prints(t, str(0, ""), `""`)
	prints(t, str(0, "a b"), `"a b"`)
	prints(t, str(0, `a"b\c`), `"a\22b\5cc"`)
	prints(t, str(0, "\x00\x1f\x7f\xff"), `"\00\1f\7f\ff"`)
	prints(t, str(0, "\n"), `"\0a"`)
	prints(t, str(0, longest), `"`+longest+`"`)
	prints(t, str(0, longest+"z"), "?")
	prints(t, open(0, str(0, longest+"z"), str(0, "x")), `(? "x")`)
	for b := range 256 {
		s := string([]byte{'x', byte(b)})
		prints(t, str(0, s), value.Show(value.Str(s)))
	}
}

func TestP72PrintOfOpens(t *testing.T) {
	prints(t, open(0), "()")
	prints(t, sexp.Tree{Kind: sexp.Open, Kids: []sexp.Tree{}}, "()")
	prints(t, open(0, atom(0, "a")), "(a)")
	prints(t, open(0, atom(0, "a"), num(0, -3), str(0, `x"`)), `(a -3 "x\22")`)
	prints(t, open(0, open(0), open(0, open(0)), open(0)), "(() (()) ())")
	prints(t, open(0, open(0, atom(0, "a"), atom(0, "b")), atom(0, "c")), "((a b) c)")
	prints(t, nest(0, api.MaxDeep), strings.Repeat("(", api.MaxDeep)+strings.Repeat(")", api.MaxDeep))
	for _, n := range []int{2, 3, 10, 1000, 1999} {
		prints(t, open(0, slices.Repeat([]sexp.Tree{num(0, 1)}, n)...), "("+strings.Repeat("1 ", n-1)+"1)")
	}
	for _, n := range []int{api.MaxDeep + 1, 49, 50} {
		prints(t, nest(0, n), strings.Repeat("(", n)+strings.Repeat(")", n))
	}
}

// noKinds are Kinds that no tree has.
var noKinds = []int{0, -1, -2, 5, 6, 256 + sexp.Open, 256 + sexp.Atom, math.MaxInt, math.MinInt}

func TestP72PrintOfOtherKinds(t *testing.T) {
	for _, kind := range noKinds {
		x := sexp.Tree{Kind: kind, S: "a", N: 7, Kids: []sexp.Tree{atom(0, "b")}, At: 3}
		prints(t, x, "")
		prints(t, sexp.Tree{Kind: kind}, "")
		prints(t, open(0, x), "()")
		prints(t, open(0, x, x), "( )")
		prints(t, open(0, atom(0, "a"), x, num(0, 1)), "(a  1)")
		prints(t, open(0, x, open(0, x, atom(0, "a"))), "( ( a))")
	}
}

func TestP72PrintLeavesOutWhatTheKindDoesNotUse(t *testing.T) {
	kids := []sexp.Tree{atom(0, "b")}
	prints(t, sexp.Tree{Kind: sexp.Open, S: "s", N: 7, At: 3}, "()")
	prints(t, sexp.Tree{Kind: sexp.Open, S: "s", N: 7, Kids: kids, At: 3}, "(b)")
	prints(t, sexp.Tree{Kind: sexp.Atom, S: "s", N: 7, Kids: kids, At: 3}, "s")
	prints(t, sexp.Tree{Kind: sexp.Num, S: "s", N: 7, Kids: kids, At: 3}, "7")
	prints(t, sexp.Tree{Kind: sexp.Str, S: "s", N: 7, Kids: kids, At: 3}, `"s"`)
}

func TestP72PrintOfATreeWithoutEndEnds(t *testing.T) {
	for _, n := range []int{1, 2, 100} {
		ring := make([]sexp.Tree, n)
		for i := range ring {
			ring[i] = sexp.Tree{Kind: sexp.Open, Kids: ring}
		}
		sexp.Print(ring[0])
		// Kids that Print does not follow may be anything.
		prints(t, sexp.Tree{Kind: sexp.Atom, S: "a", Kids: ring}, "a")
		prints(t, open(0, sexp.Tree{Kind: 0, Kids: ring}), "()")
	}
	twice := atom(0, "a")
	for range 50 {
		twice = open(0, twice, twice)
	}
	sexp.Print(twice)
	for _, n := range []int{1000, 1 << 16, 1 << 20} {
		sexp.Print(nest(0, n))
	}
}

func TestP72PrintChangesNothing(t *testing.T) {
	room := make([]sexp.Tree, 2, 8)
	room[0], room[1] = atom(5, "a"), open(9, num(2, 3), str(4, "x"))
	spare := room[:8]
	for i := range spare[2:] {
		spare[2+i] = num(i, 77)
	}
	before := slices.Clone(spare)
	prints(t, sexp.Tree{Kind: sexp.Open, Kids: room, At: 6}, `(a (3 "x"))`)
	for i := range spare {
		if !same(spare[i], before[i]) {
			t.Errorf("Kid %d became %s", i, tell(spare[i]))
		}
	}
}

// some returns a tree that Read may return but for its offsets, with brackets at most so deep.
func some(x *rand.Rand, deep int) sexp.Tree {
	switch kind := x.Intn(5); {
	case kind == 0:
		return atom(0, strings.Repeat(string(rune('a'+x.Intn(26))), 1+x.Intn(14)))
	case kind == 1:
		return num(0, int64(x.Uint64())>>x.Intn(64))
	case kind == 2 || deep == 0:
		b := make([]byte, x.Intn(api.MaxText+1)/(1+x.Intn(9)))
		x.Read(b)
		return str(0, string(b))
	}
	t := open(0)
	for range x.Intn(6) {
		t.Kids = append(t.Kids, some(x, deep-1))
	}
	return t
}

func TestP73ReadOfWhatPrintGave(t *testing.T) {
	x := rand.New(rand.NewSource(7))
	short := 0
	for range 5000 {
		tree := some(x, 1+x.Intn(api.MaxDeep))
		s := sexp.Print(tree)
		if len(s) > api.MaxPlan {
			fails(t, s, api.ErrLong, 0)
			continue
		}
		short++
		got, why, at := sexp.Read(s)
		if why != api.OK || at != 0 || !same(moved(got), tree) {
			t.Fatalf("%s is printed as %+q and read as %s, error %d at %d", tell(tree), s, tell(got), why, at)
		}
		if sexp.Print(got) != s {
			t.Fatalf("%+q is printed as %+q", s, sexp.Print(got))
		}
	}
	if short < 3000 {
		t.Errorf("only %d trees were short enough", short)
	}
}

func TestP73OneWayOfWriting(t *testing.T) {
	for s, want := range map[string]string{
		" ( filter\n(lt a 5)(table t) )\n": "(filter (lt a 5) (table t))",
		"(a\"b\"3-4(c)d)":                  `(a "b" 3 -4 (c) d)`,
		"( ( ( ) ) )":                      "((()))",
		"-0":                               "0",
		"(007 -007 -00)":                   "(7 -7 0)",
		`"\41\20\7e\7f"`:                   `"A ~\7f"`,
		`"\22\5c"`:                         `"\22\5c"`,
	} {
		got, why, _ := sexp.Read(s)
		if why != api.OK {
			t.Fatalf("%q: error %d", s, why)
		}
		prints(t, got, want)
		again, why, _ := sexp.Read(want)
		if why != api.OK || !same(moved(got), moved(again)) {
			t.Errorf("%q: %s, error %d", want, tell(again), why)
		}
	}
}

// A tree whose print is longer than what it was read from: the promise ends where the print is too long.
func TestP73PrintAboutMaxPlan(t *testing.T) {
	for n := 280; n <= 310; n++ {
		s := "(" + strings.Repeat("a1", n)
		if len(s) >= api.MaxPlan {
			break
		}
		got, why, _ := sexp.Read(s + ")")
		if why != api.OK {
			t.Fatal(why)
		}
		prints(t, got, "("+strings.Repeat("a 1 ", n)[:4*n-1]+")")
		fails(t, sexp.Print(got), api.ErrLong, 0)
	}
	for n := 140; n <= 160; n++ {
		got, _, _ := sexp.Read("(" + strings.Repeat("a1", n) + ")")
		s := sexp.Print(got)
		if len(s) > api.MaxPlan {
			fails(t, s, api.ErrLong, 0)
			continue
		}
		again, why, _ := sexp.Read(s)
		if why != api.OK || !same(moved(got), moved(again)) {
			t.Errorf("%d bytes: error %d", len(s), why)
		}
	}
}
