package expr_test

import (
	"math"
	"math/big"
	"slices"
	"strconv"
	"strings"
	"testing"

	"confluence/api"
	"confluence/expr"
	"confluence/value"
)

// edges are numbers at which something may go wrong.
var edges = []int64{
	0, 1, -1, 2, -2, 3, -3, 10, -10,
	math.MinInt64, math.MinInt64 + 1, math.MinInt64 + 2, math.MaxInt64, math.MaxInt64 - 1, math.MaxInt64 - 2,
	math.MinInt64 / 2, math.MinInt64/2 - 1, math.MinInt64/2 + 1, math.MaxInt64 / 2, math.MaxInt64/2 + 1, math.MaxInt64/2 + 2,
	math.MaxInt64 / 3, math.MaxInt64/3 + 1, math.MinInt64 / 3, math.MinInt64/3 - 1, math.MaxInt64 / 10, math.MaxInt64/10 + 1, math.MinInt64/10 - 1,
	math.MaxInt32, math.MinInt32, math.MaxUint32, math.MaxUint32 + 1, -math.MaxUint32, -math.MaxUint32 - 1,
	3037000499, 3037000500, -3037000499, -3037000500, 1<<53 + 1,
}

// gives checks that Eval of an expression, for abcRow, is a value.
func gives(t *testing.T, s string, want api.Value) {
	t.Helper()
	if v, why := expr.Eval(made(t, s), abc, abcRow); v != want || why != api.OK {
		t.Errorf("Eval of %s: %v, error %d, not %v", s, v, why, want)
	}
}

func givesNum(t *testing.T, s string, want int64) {
	t.Helper()
	gives(t, s, value.Num(want))
}

func givesText(t *testing.T, s string, want string) {
	t.Helper()
	gives(t, s, value.Str(want))
}

// errs checks that Eval of an expression, for abcRow, is an error.
func errs(t *testing.T, s string, want api.Errno) {
	t.Helper()
	if v, why := expr.Eval(made(t, s), abc, abcRow); v != (api.Value{}) || why != want {
		t.Errorf("Eval of %s: %v, error %d, not %d", s, v, why, want)
	}
}

func TestP83EvalOfTheExamples(t *testing.T) {
	a := []api.Col{{Name: "a", Kind: api.Int}}
	for n, want := range map[int64]int64{-5: 5, 5: 5, 0: 0, math.MinInt64 + 1: math.MaxInt64} {
		if v, why := expr.Eval(made(t, "(if (lt a 0) (neg a) a)"), a, api.Row{value.Num(n)}); v != value.Num(want) || why != api.OK {
			t.Errorf("%d: %v, error %d", n, v, why)
		}
	}
	errs(t, "(neg -9223372036854775808)", api.ErrOver)
	givesNum(t, "(or 2 0)", 1)
	givesNum(t, "(if 1 5 (neg -9223372036854775808))", 5)
	givesNum(t, "(if 0 (neg -9223372036854775808) 6)", 6)
}

func TestP83EvalOfEachKindAlone(t *testing.T) {
	givesNum(t, "a", 3)
	givesNum(t, "b", -5)
	givesText(t, "c", "x")
	givesText(t, "d", "")
	givesText(t, `"a"`, "a")
	givesText(t, `""`, "")
	givesText(t, `"\00\ff"`, "\x00\xff")
	givesText(t, `"`+longest+`"`, longest)
	for _, n := range edges {
		givesNum(t, strconv.FormatInt(n, 10), n)
	}
}

// inRange is n, unless it is out of range.
func inRange(n *big.Int) (api.Value, api.Errno) {
	if !n.IsInt64() {
		return api.Value{}, api.ErrOver
	}
	return value.Num(n.Int64()), api.OK
}

// ofNumbers holds an operation on two numbers against what it is to give, for numbers that are written and for columns.
func ofNumbers(t *testing.T, op string, a, b int64, want api.Value, why api.Errno) {
	t.Helper()
	cols := []api.Col{{Name: "x", Kind: api.Int}, {Name: "y", Kind: api.Int}}
	operands := [][]api.Expr{{number(a), number(b)}, {column("x"), column("y")}}
	for _, kids := range operands {
		if got, w := expr.Eval(apply(op, kids[:counts[op]]...), cols, api.Row{value.Num(a), value.Num(b)}); got != want || w != why {
			t.Errorf("(%s %d %d): %v, error %d, not %v, error %d", op, a, b, got, w, want, why)
		}
	}
}

func TestP83Numbers(t *testing.T) {
	for _, a := range edges {
		for _, b := range edges {
			m, n := big.NewInt(a), big.NewInt(b)
			for op, x := range map[string]*big.Int{"add": new(big.Int).Add(m, n), "sub": new(big.Int).Sub(m, n), "mul": new(big.Int).Mul(m, n), "neg": new(big.Int).Neg(m)} {
				want, why := inRange(x)
				ofNumbers(t, op, a, b, want, why)
			}
			for op, is := range map[string]bool{"eq": a == b, "lt": a < b, "and": a != 0 && b != 0, "or": a != 0 || b != 0, "not": a == 0} {
				want := value.Num(0)
				if is {
					want = value.Num(1)
				}
				ofNumbers(t, op, a, b, want, api.OK)
			}
		}
	}
}

func TestP83SumsAndDifferencesAtTheEnds(t *testing.T) {
	ofNumbers(t, "add", math.MaxInt64, 0, value.Num(math.MaxInt64), api.OK)
	ofNumbers(t, "add", math.MaxInt64, 1, api.Value{}, api.ErrOver)
	ofNumbers(t, "add", 1, math.MaxInt64, api.Value{}, api.ErrOver)
	ofNumbers(t, "add", math.MaxInt64-1, 1, value.Num(math.MaxInt64), api.OK)
	ofNumbers(t, "add", math.MaxInt64, math.MaxInt64, api.Value{}, api.ErrOver)
	ofNumbers(t, "add", math.MinInt64, -1, api.Value{}, api.ErrOver)
	ofNumbers(t, "add", math.MinInt64+1, -1, value.Num(math.MinInt64), api.OK)
	ofNumbers(t, "add", math.MinInt64, math.MinInt64, api.Value{}, api.ErrOver)
	ofNumbers(t, "add", math.MinInt64, math.MaxInt64, value.Num(-1), api.OK)
	ofNumbers(t, "sub", 0, math.MinInt64, api.Value{}, api.ErrOver)
	ofNumbers(t, "sub", -1, math.MinInt64, value.Num(math.MaxInt64), api.OK)
	ofNumbers(t, "sub", math.MinInt64, math.MinInt64, value.Num(0), api.OK)
	ofNumbers(t, "sub", math.MinInt64, 1, api.Value{}, api.ErrOver)
	ofNumbers(t, "sub", math.MinInt64, 0, value.Num(math.MinInt64), api.OK)
	ofNumbers(t, "sub", -2, math.MaxInt64, api.Value{}, api.ErrOver)
	ofNumbers(t, "sub", -1, math.MaxInt64, value.Num(math.MinInt64), api.OK)
	ofNumbers(t, "neg", math.MinInt64, 0, api.Value{}, api.ErrOver)
	ofNumbers(t, "neg", math.MinInt64+1, 0, value.Num(math.MaxInt64), api.OK)
	ofNumbers(t, "neg", math.MaxInt64, 0, value.Num(-math.MaxInt64), api.OK)
}

func TestP83ProductsAtTheEnds(t *testing.T) {
	ofNumbers(t, "mul", math.MinInt64, -1, api.Value{}, api.ErrOver)
	ofNumbers(t, "mul", -1, math.MinInt64, api.Value{}, api.ErrOver)
	ofNumbers(t, "mul", math.MinInt64, 1, value.Num(math.MinInt64), api.OK)
	ofNumbers(t, "mul", 1, math.MinInt64, value.Num(math.MinInt64), api.OK)
	ofNumbers(t, "mul", math.MinInt64, 0, value.Num(0), api.OK)
	ofNumbers(t, "mul", 0, math.MinInt64, value.Num(0), api.OK)
	ofNumbers(t, "mul", math.MinInt64, math.MinInt64, api.Value{}, api.ErrOver)
	ofNumbers(t, "mul", math.MinInt64, 2, api.Value{}, api.ErrOver)
	ofNumbers(t, "mul", 1<<62, 2, api.Value{}, api.ErrOver)
	ofNumbers(t, "mul", 1<<62, -2, value.Num(math.MinInt64), api.OK)
	ofNumbers(t, "mul", -2, 1<<62, value.Num(math.MinInt64), api.OK)
	ofNumbers(t, "mul", 1<<32, 1<<31, api.Value{}, api.ErrOver)
	ofNumbers(t, "mul", 1<<32, -1<<31, value.Num(math.MinInt64), api.OK)
	ofNumbers(t, "mul", 1<<32, 1<<32, api.Value{}, api.ErrOver)
	ofNumbers(t, "mul", -1<<32, 1<<32, api.Value{}, api.ErrOver)
	ofNumbers(t, "mul", 1<<40, 1<<40, api.Value{}, api.ErrOver)
	ofNumbers(t, "mul", math.MaxInt64, math.MaxInt64, api.Value{}, api.ErrOver)
	ofNumbers(t, "mul", 3037000499, 3037000499, value.Num(3037000499*3037000499), api.OK)
	ofNumbers(t, "mul", 3037000500, 3037000500, api.Value{}, api.ErrOver)
	// 7 * 7 * 73 * 127 * 337 * 92737 * 649657 is the greatest number.
	ofNumbers(t, "mul", 649657, 14197294936951, value.Num(math.MaxInt64), api.OK)
	ofNumbers(t, "mul", 649657, 14197294936952, api.Value{}, api.ErrOver)
	ofNumbers(t, "mul", -649657, 14197294936951, value.Num(-math.MaxInt64), api.OK)
	ofNumbers(t, "mul", -1, math.MaxInt64, value.Num(-math.MaxInt64), api.OK)
}

// someTexts are texts whose order is easily got wrong.
var someTexts = []string{"", "a", "A", "b", "ab", "aa", "a\x00", "\x00", "\xff", "\x7f", "\x80", "ä", "10", "9", " ", "zz", longest, longest[1:], longest[1:] + "a"}

func TestP83TextsInOrder(t *testing.T) {
	cols := []api.Col{{Name: "x", Kind: api.Text}, {Name: "y", Kind: api.Text}}
	for _, a := range someTexts {
		for _, b := range someTexts {
			for op, is := range map[string]bool{"eq": a == b, "lt": a < b} {
				want := value.Num(0)
				if is {
					want = value.Num(1)
				}
				for _, e := range []api.Expr{apply(op, quoted(a), quoted(b)), apply(op, column("x"), column("y")), apply(op, column("x"), quoted(b))} {
					if v, why := expr.Eval(e, cols, api.Row{value.Str(a), value.Str(b)}); v != want || why != api.OK {
						t.Errorf("(%s %q %q): %v, error %d", op, a, b, v, why)
					}
				}
			}
		}
	}
}

func TestP83CatAndLen(t *testing.T) {
	for m := range api.MaxText + 1 {
		for n := range api.MaxText + 1 {
			a, b := strings.Repeat("\xffx", m)[:m], strings.Repeat("y\x00", n)[:n]
			v, why := expr.Eval(apply("cat", quoted(a), quoted(b)), nil, nil)
			size, w := expr.Eval(apply("len", apply("cat", quoted(a), quoted(b))), nil, nil)
			if m+n > api.MaxText {
				if v != (api.Value{}) || why != api.ErrLong || size != v || w != why {
					t.Errorf("%d and %d bytes: %v, error %d, length %v, error %d", m, n, v, why, size, w)
				}
			} else if v != value.Str(a+b) || why != api.OK || size != value.Num(int64(m+n)) || w != api.OK {
				t.Errorf("%d and %d bytes: %v, error %d, length %v, error %d", m, n, v, why, size, w)
			}
		}
	}
	givesText(t, `(cat "ab" "cd")`, "abcd")
	givesText(t, `(cat c d)`, "x")
	givesText(t, `(cat "y" c)`, "yx")
	givesText(t, `(cat (cat c "1") (cat "2" c))`, "x12x")
	errs(t, `(cat "`+longest+`" c)`, api.ErrLong)
	givesText(t, `(cat "`+longest+`" d)`, longest)
	givesNum(t, `(len "\c3\a4")`, 2)
	givesNum(t, `(len "\00\00\00")`, 3)
	givesNum(t, `(len d)`, 0)
	// A text that is too long on the way is an error, be it cut afterwards or not.
	errs(t, `(len (cat "`+longest+`" "x"))`, api.ErrLong)
}

func TestP83AnyNumberButNoughtIsTrue(t *testing.T) {
	for _, n := range edges {
		s := strconv.FormatInt(n, 10)
		is := int64(1)
		if n == 0 {
			is = 0
		}
		givesNum(t, "(and "+s+" 1)", is)
		givesNum(t, "(and -1 "+s+")", is)
		givesNum(t, "(or "+s+" 0)", is)
		givesNum(t, "(or 0 "+s+")", is)
		givesNum(t, "(not "+s+")", 1-is)
		givesNum(t, "(not (not "+s+"))", is)
		givesNum(t, "(if "+s+" 1 0)", is)
		givesText(t, "(if "+s+` "yes" "no")`, map[int64]string{1: "yes", 0: "no"}[is])
	}
	givesNum(t, "(and 1 2)", 1)
	givesNum(t, "(and 2 1)", 1)
	givesNum(t, "(or 0 0)", 0)
}

func TestP83OneBranchOfAnIf(t *testing.T) {
	const over = "(neg -9223372036854775808)"
	long := `(len (cat "` + longest + `" "x"))`
	for _, wrong := range []string{over, long, "(add 9223372036854775807 1)", "(mul a 9223372036854775807)", "(if 1 " + over + " 2)", "(and 1 " + over + ")"} {
		givesNum(t, "(if 1 5 "+wrong+")", 5)
		givesNum(t, "(if -7 5 "+wrong+")", 5)
		givesNum(t, "(if a 5 "+wrong+")", 5)
		givesNum(t, "(if 0 "+wrong+" 6)", 6)
		givesNum(t, "(if (lt a b) "+wrong+" 6)", 6)
		givesNum(t, "(if 0 "+wrong+" (if 1 7 "+wrong+"))", 7)
		givesNum(t, "(add 1 (if 0 "+wrong+" 6))", 7)
	}
	errs(t, "(if 0 5 "+over+")", api.ErrOver)
	errs(t, "(if 1 "+over+" 5)", api.ErrOver)
	errs(t, "(if 1 "+long+" "+over+")", api.ErrLong)
	errs(t, "(if 0 "+long+" "+over+")", api.ErrOver)
	errs(t, "(if "+over+" 1 2)", api.ErrOver)
	errs(t, "(if "+over+" "+long+" "+long+")", api.ErrOver)
	errs(t, "(if "+long+" "+over+" 2)", api.ErrLong)
	// The other branch has a Kind all the same.
	errs(t, `(if 1 5 "x")`, api.ErrType)
	errs(t, `(if 1 5 zz)`, api.ErrType)
	errs(t, `(if 0 (neg c) 6)`, api.ErrType)
}

// Both operands are evaluated, whatever the first one says.
func TestP83ErrorsWithinAndAndOr(t *testing.T) {
	const over = "(neg -9223372036854775808)"
	long := `(len (cat "` + longest + `" "x"))`
	for _, n := range []string{"0", "1", "-1", "a", "(len d)"} {
		for _, op := range []string{"and", "or"} {
			errs(t, "("+op+" "+n+" "+over+")", api.ErrOver)
			errs(t, "("+op+" "+over+" "+n+")", api.ErrOver)
			errs(t, "("+op+" "+n+" "+long+")", api.ErrLong)
			errs(t, "("+op+" "+long+" "+n+")", api.ErrLong)
			errs(t, "("+op+" "+n+" ("+op+" "+n+" "+long+"))", api.ErrLong)
		}
	}
	for _, op := range []string{"and", "or", "add", "mul", "eq", "lt", "sub"} {
		errs(t, "("+op+" "+long+" "+over+")", api.ErrLong)
		errs(t, "("+op+" "+over+" "+long+")", api.ErrOver)
		errs(t, "("+op+" (neg "+over+") "+long+")", api.ErrOver)
		errs(t, "("+op+" (not "+long+") "+over+")", api.ErrLong)
	}
}

func TestP83TheFirstOfSeveralErrors(t *testing.T) {
	const over = "(neg -9223372036854775808)"
	long := `(cat "` + longest + `" "x")`
	errs(t, "(mul 9223372036854775807 (len "+long+"))", api.ErrLong)
	errs(t, `(cat "`+longest+`" (if `+over+` "x" "y"))`, api.ErrOver)
	errs(t, "(cat "+long+" (if "+over+` "x" "y"))`, api.ErrLong)
	errs(t, "(cat (if "+over+` "x" "y") `+long+")", api.ErrOver)
	errs(t, "(add (add 1 "+over+") (len "+long+"))", api.ErrOver)
	errs(t, "(add (len "+long+") (add 1 "+over+"))", api.ErrLong)
	// What has no Kind counts ahead of all of them, and always as ErrType.
	errs(t, "(add "+over+" zz)", api.ErrType)
	errs(t, "(add (len "+long+") c)", api.ErrType)
	errs(t, "zz", api.ErrType)
	errs(t, "(neg zz)", api.ErrType)
	errs(t, "(neg c)", api.ErrType)
}

func TestP83ASumThatIsTooGreatOnTheWay(t *testing.T) {
	errs(t, "(add (add 9223372036854775807 1) -1)", api.ErrOver)
	givesNum(t, "(add 9223372036854775807 (add 1 -1))", math.MaxInt64)
	errs(t, "(mul 0 (add 9223372036854775807 1))", api.ErrOver)
	errs(t, "(neg (neg -9223372036854775808))", api.ErrOver)
	givesNum(t, "(neg (neg 9223372036854775807))", math.MaxInt64)
}

func TestP83RowsThatDoNotFit(t *testing.T) {
	long := strings.Repeat("x", api.MaxText+1)
	for _, r := range []api.Row{
		nil,
		{},
		abcRow[:1],
		abcRow[:3],
		append(slices.Clone(abcRow), value.Num(1)),
		append(slices.Clone(abcRow), api.Value{}),
		{value.Str("3"), value.Num(-5), value.Str("x"), value.Str("")},
		{value.Num(3), value.Str("x"), value.Num(-5), value.Str("")},
		{value.Num(3), value.Num(-5), value.Str("x"), value.Num(0)},
		{api.Value{}, value.Num(-5), value.Str("x"), value.Str("")},
		{value.Num(3), value.Num(-5), value.Str("x"), api.Value{}},
		{value.Num(3), value.Num(-5), value.Str("x"), value.Str(long)},
		{api.Value{Kind: api.Int, N: 3, S: "x"}, value.Num(-5), value.Str("x"), value.Str("")},
		{value.Num(3), value.Num(-5), api.Value{Kind: api.Text, N: 1, S: "x"}, value.Str("")},
		{value.Num(3), value.Num(-5), api.Value{Kind: 3, S: "x"}, value.Str("")},
		{value.Num(3), api.Value{Kind: -1}, value.Str("x"), value.Str("")},
	} {
		for _, s := range []string{"a", "5", `"x"`, "(add a b)", "(if 1 a 5)", "(neg -9223372036854775808)", "zz"} {
			if v, why := expr.Eval(made(t, s), abc, r); v != (api.Value{}) || why != api.ErrType {
				t.Errorf("Eval of %s for %v: %v, error %d", s, r, v, why)
			}
		}
	}
	if v, why := expr.Eval(number(5), nil, abcRow); v != (api.Value{}) || why != api.ErrType {
		t.Errorf("%v, error %d", v, why)
	}
}

func TestP83EvalWithoutColumns(t *testing.T) {
	for _, cols := range [][]api.Col{nil, {}} {
		for _, r := range []api.Row{nil, {}} {
			if v, why := expr.Eval(made(t, `(cat "x" (if (lt 1 2) "y" "z"))`), cols, r); v != value.Str("xy") || why != api.OK {
				t.Errorf("%v, error %d", v, why)
			}
			if v, why := expr.Eval(column("a"), cols, r); v != (api.Value{}) || why != api.ErrType {
				t.Errorf("%v, error %d", v, why)
			}
		}
	}
}

func TestP83EachColumnOfARow(t *testing.T) {
	cols := []api.Col{{Name: "f", Kind: api.Text}, {Name: "e", Kind: api.Int}, {Name: "d", Kind: api.Text}, {Name: "c", Kind: api.Int}, {Name: "b", Kind: api.Text}, {Name: "abcdefghijkl", Kind: api.Int}}
	r := api.Row{value.Str(longest), value.Num(math.MinInt64), value.Str(""), value.Num(0), value.Str("b"), value.Num(math.MaxInt64)}
	for i, c := range cols {
		if v, why := expr.Eval(column(c.Name), cols, r); v != r[i] || why != api.OK {
			t.Errorf("column %d: %v, error %d", i, v, why)
		}
	}
}

func TestP83DeepAndGreatExpressions(t *testing.T) {
	deep := column("a")
	for range 48 {
		deep = apply("neg", deep)
	}
	great := column("a")
	for range 9 {
		great = apply("add", great, great)
	}
	for _, x := range []struct {
		e    api.Expr
		want int64
	}{{deep, 3}, {apply("neg", deep), -3}, {great, 3 * 512}} {
		if v, why := expr.Eval(x.e, abc, abcRow); v != value.Num(x.want) || why != api.OK {
			t.Errorf("%v, error %d, not %d", v, why, x.want)
		}
	}
}

func TestP83EvalAndUsesEndForAnyArguments(t *testing.T) {
	for _, e := range endless() {
		expr.Eval(e, abc, abcRow)
		expr.Eval(e, nil, nil)
		expr.Uses(e)
	}
	for _, cols := range badColumns {
		for _, op := range ops {
			e := apply(op, slices.Repeat([]api.Expr{column("a")}, counts[op])...)
			for _, r := range []api.Row{nil, {value.Num(1)}, {value.Str("x")}, {value.Num(1), value.Str("x")}, {{Kind: 0}}, {{Kind: 7}, {Kind: -1}}, {{Kind: math.MaxInt}}, slices.Repeat(api.Row{value.Num(1)}, 100)} {
				expr.Eval(e, cols, r)
			}
		}
	}
}

// The same call gives the same answer, whatever was called between.
func TestP83NothingIsKept(t *testing.T) {
	for range 3 {
		givesNum(t, "(if (lt a 0) (neg a) (add a b))", -2)
		errs(t, "(neg -9223372036854775808)", api.ErrOver)
		errs(t, "(add a c)", api.ErrType)
		givesText(t, `(cat c "y")`, "xy")
	}
}

// uses checks that Uses of an expression is these names.
func uses(t *testing.T, e api.Expr, want ...string) {
	t.Helper()
	if got := expr.Uses(e); !slices.Equal(got, want) {
		t.Errorf("Uses of %s: %q, not %q", tell(e), got, want)
	}
}

func TestP83Uses(t *testing.T) {
	uses(t, made(t, "a"), "a")
	uses(t, made(t, "5"))
	uses(t, made(t, `"a"`))
	uses(t, made(t, `(add 1 (len "a"))`))
	uses(t, made(t, "(add a b)"), "a", "b")
	uses(t, made(t, "(add b a)"), "a", "b")
	uses(t, made(t, "(add a a)"), "a")
	uses(t, made(t, "(if (lt z 0) (neg z) (add (mul b z) (sub a b)))"), "a", "b", "z")
	uses(t, made(t, "(if b (if aa ab abc) (if ac a (neg b)))"), "a", "aa", "ab", "abc", "ac", "b")
	uses(t, made(t, `(cat (cat "x" c) (cat "b" (if (not a) "y" d)))`), "a", "c", "d")
	// Names are no less used if an expression has no Kind or no value, or its columns are not there.
	uses(t, made(t, `(add "x" (neg zz))`), "zz")
	uses(t, made(t, "(if 0 a b)"), "a", "b")
	for _, op := range ops {
		kids := []api.Expr{column("z"), column("m"), column("a")}[:counts[op]]
		want := []string{"z", "m", "a"}[:counts[op]]
		slices.Sort(want)
		uses(t, apply(op, kids...), want...)
	}
}

func TestP83UsesOfManyNames(t *testing.T) {
	e := column("a")
	want := []string{"a"}
	for c := byte('y'); c > 'b'; c-- {
		name := strings.Repeat(string(rune(c)), 1+int(c)%api.MaxName)
		e = apply("add", apply("neg", column(name)), apply("sub", e, column(name)))
		want = append(want, name)
	}
	slices.Sort(want)
	uses(t, e, want...)
}

// Columns count wherever they are, though Read could not have put them there.
func TestP83UsesOfWhatReadCannotReturn(t *testing.T) {
	uses(t, api.Expr{})
	uses(t, api.Expr{Kind: 9, S: "a"})
	uses(t, api.Expr{Kind: api.Number, S: "a"})
	uses(t, apply("a"))
	uses(t, apply("foo", column("b"), column("a")), "a", "b")
	uses(t, apply("neg", column("b"), number(1), column("a")), "a", "b")
	uses(t, api.Expr{Kind: 9, Kids: []api.Expr{column("b"), apply("neg", column("a"))}}, "a", "b")
	uses(t, api.Expr{Kind: api.Column, S: "b", Kids: []api.Expr{column("a")}}, "a", "b")
	uses(t, column("B"), "B")
}

func TestP83WhatUsesReturnedIsNewMemory(t *testing.T) {
	e := made(t, "(if b (add a c) (add b a))")
	first, second := expr.Uses(e), expr.Uses(e)
	first = first[:cap(first)]
	for i := range first {
		first[i] = "spoilt"
	}
	if !slices.Equal(second, []string{"a", "b", "c"}) || !slices.Equal(expr.Uses(e), second) {
		t.Errorf("%q", second)
	}
}
