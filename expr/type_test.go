package expr_test

import (
	"math"
	"slices"
	"testing"

	"confluence/api"
	"confluence/expr"
)

// types checks that Type of an expression, over abc, is a Kind.
func types(t *testing.T, s string, want int) {
	t.Helper()
	if kind, why := expr.Type(made(t, s), abc); kind != want || why != api.OK {
		t.Errorf("Type of %s: %d, error %d, not %d", s, kind, why, want)
	}
}

// untyped checks that Type of an expression, over abc, is an error.
func untyped(t *testing.T, s string, want api.Errno) {
	t.Helper()
	if kind, why := expr.Type(made(t, s), abc); kind != 0 || why != want {
		t.Errorf("Type of %s: %d, error %d, not %d", s, kind, why, want)
	}
}

func TestP82TypeOfEachKindAlone(t *testing.T) {
	types(t, "a", api.Int)
	types(t, "b", api.Int)
	types(t, "c", api.Text)
	types(t, "d", api.Text)
	types(t, "0", api.Int)
	types(t, "-9223372036854775808", api.Int)
	types(t, `""`, api.Text)
	types(t, `"a"`, api.Text)
	types(t, `"3"`, api.Text)
	untyped(t, "e", api.ErrName)
	untyped(t, "ab", api.ErrName)
	untyped(t, "abcdefghijkl", api.ErrName)
}

func TestP82TypeOfTheExamples(t *testing.T) {
	untyped(t, `(add a "x")`, api.ErrType)
	types(t, "(if (lt a 0) (neg a) a)", api.Int)
	types(t, "(neg -9223372036854775808)", api.Int)
	types(t, "(or 2 0)", api.Int)
}

// ofKinds are expressions of each Kind: columns, what is written, and operations.
var ofKinds = map[int][]string{
	api.Int:  {"a", "7", "(add a b)", "(sub 1 b)", "(mul a 2)", "(neg a)", "(eq c d)", "(lt 1 2)", "(and a b)", "(or a b)", "(not a)", "(len c)", "(if a 1 b)"},
	api.Text: {"c", `"x"`, `(cat c "x")`, `(if a c "x")`},
}

// wantedKind returns the Kind of what an operation makes of operands of these Kinds, or 0 if it takes none such.
func wantedKind(op string, kinds []int) int {
	all := func(kind int) bool { return !slices.ContainsFunc(kinds, func(k int) bool { return k != kind }) }
	switch {
	case op == "cat" && all(api.Text):
		return api.Text
	case op == "len" && all(api.Text):
		return api.Int
	case (op == "eq" || op == "lt") && (all(api.Int) || all(api.Text)):
		return api.Int
	case op == "if" && kinds[0] == api.Int && kinds[1] == kinds[2]:
		return kinds[1]
	case slices.Contains([]string{"add", "sub", "mul", "neg", "and", "or", "not"}, op) && all(api.Int):
		return api.Int
	}
	return 0
}

func TestP82EachOperationOnEachKind(t *testing.T) {
	for _, op := range ops {
		var each func(s string, kinds []int)
		each = func(s string, kinds []int) {
			if len(kinds) == counts[op] {
				if want := wantedKind(op, kinds); want != 0 {
					types(t, s+")", want)
				} else {
					untyped(t, s+")", api.ErrType)
				}
				return
			}
			for kind, examples := range ofKinds {
				for _, example := range examples {
					each(s+" "+example, append(slices.Clone(kinds), kind))
				}
			}
		}
		each("("+op, nil)
	}
}

func TestP82AColumnThatIsAbsent(t *testing.T) {
	for _, op := range ops {
		for i := range counts[op] {
			// The other operands are of Kinds that the operation may not take: Kids are checked ahead of it.
			for _, others := range []api.Expr{column("a"), column("c"), number(1), quoted("x")} {
				kids := slices.Repeat([]api.Expr{others}, counts[op])
				kids[i] = column("zz")
				if kind, why := expr.Type(apply(op, kids...), abc); kind != 0 || why != api.ErrName {
					t.Errorf("%s, operand %d: %d, error %d", op, i, kind, why)
				}
			}
		}
	}
}

func TestP82TheFirstOfSeveralErrors(t *testing.T) {
	untyped(t, `(add "x" zz)`, api.ErrName)
	untyped(t, `(add zz "x")`, api.ErrName)
	untyped(t, `(add (neg "x") zz)`, api.ErrType)
	untyped(t, `(add zz (neg "x"))`, api.ErrName)
	untyped(t, `(add (neg zz) (neg "x"))`, api.ErrName)
	untyped(t, `(add (neg "x") (neg zz))`, api.ErrType)
	untyped(t, `(neg (neg (cat 1 zz)))`, api.ErrName)
	untyped(t, `(neg (neg (cat 1 "x")))`, api.ErrType)
	untyped(t, `(if "x" (neg "x") zz)`, api.ErrType)
	untyped(t, `(if "x" zz (neg "x"))`, api.ErrName)
	untyped(t, `(if zz (neg "x") 1)`, api.ErrName)
	untyped(t, `(if "x" 1 zz)`, api.ErrName)
	untyped(t, `(if a (len 5) zz)`, api.ErrType)
	untyped(t, `(eq (len zz) (len 5))`, api.ErrName)
	untyped(t, `(lt (len 5) (len zz))`, api.ErrType)
}

// Of what Read cannot return, wherever it is, nothing else counts.
func TestP82WhatReadCannotReturnCountsFirst(t *testing.T) {
	for _, wrong := range []api.Expr{{}, {Kind: 9}, column("add"), column(""), {Kind: api.Column, S: "a", N: 1}, {Kind: api.Number, S: "x"}, {Kind: api.String, N: 1}, apply("neg"), apply("foo", column("a")), apply("add", column("a"), column("b"), column("c"))} {
		for _, e := range []api.Expr{wrong, apply("add", column("zz"), wrong), apply("add", wrong, column("zz")), apply("neg", apply("add", apply("neg", column("zz")), apply("not", wrong))), apply("if", column("zz"), quoted("x"), wrong)} {
			for _, cols := range [][]api.Col{nil, abc} {
				if kind, why := expr.Type(e, cols); kind != 0 || why != api.ErrType {
					t.Errorf("Type of %s: %d, error %d", tell(e), kind, why)
				}
			}
		}
	}
}

func TestP82ListsOfColumns(t *testing.T) {
	for _, cols := range [][]api.Col{nil, {}} {
		for s, want := range map[string]int{"5": api.Int, `"x"`: api.Text, "(add 1 2)": api.Int, `(cat "x" "y")`: api.Text, `(if 1 "x" "y")`: api.Text} {
			if kind, why := expr.Type(made(t, s), cols); kind != want || why != api.OK {
				t.Errorf("Type of %s: %d, error %d", s, kind, why)
			}
		}
		if kind, why := expr.Type(column("a"), cols); kind != 0 || why != api.ErrName {
			t.Errorf("%d, error %d", kind, why)
		}
	}
	six := []api.Col{{Name: "f", Kind: api.Text}, {Name: "e", Kind: api.Int}, {Name: "d", Kind: api.Text}, {Name: "c", Kind: api.Int}, {Name: "b", Kind: api.Text}, {Name: "abcdefghijkl", Kind: api.Int}}
	for i, c := range six {
		if kind, why := expr.Type(column(c.Name), six); kind != c.Kind || why != api.OK {
			t.Errorf("column %d: %d, error %d", i, kind, why)
		}
		if kind, why := expr.Type(column(c.Name), six[:i]); kind != 0 || why != api.ErrName {
			t.Errorf("column %d: %d, error %d", i, kind, why)
		}
	}
}

// badColumns are lists that are neither empty nor valid.
var badColumns = [][]api.Col{
	{{Name: "a", Kind: 0}},
	{{Name: "a", Kind: 7}, {Name: "b", Kind: -1}},
	{{Name: "a", Kind: api.Int}, {Name: "a", Kind: api.Text}},
	{{Name: "add", Kind: api.Int}, {Name: "", Kind: api.Text}},
	slices.Repeat([]api.Col{{Name: "a", Kind: api.Int}}, 100),
	{{Name: "a", Kind: math.MaxInt}},
}

func TestP82TypeEndsForAnyArguments(t *testing.T) {
	for _, e := range endless() {
		expr.Type(e, abc)
		expr.Type(e, nil)
	}
	for _, cols := range badColumns {
		for _, op := range ops {
			expr.Type(apply(op, slices.Repeat([]api.Expr{column("a")}, counts[op])...), cols)
			expr.Type(apply(op, slices.Repeat([]api.Expr{column("b")}, counts[op])...), cols)
		}
	}
}

func TestP82DeepAndGreatExpressions(t *testing.T) {
	deep := column("a")
	for range 49 {
		deep = apply("neg", deep)
	}
	great := column("c")
	for range 10 {
		great = apply("cat", great, great)
	}
	for _, x := range []struct {
		e    api.Expr
		cols []api.Col
		kind int
		why  api.Errno
	}{{deep, abc, api.Int, api.OK}, {deep, nil, 0, api.ErrName}, {deep, abc[2:], 0, api.ErrName}, {deep, []api.Col{{Name: "a", Kind: api.Text}}, 0, api.ErrType}, {great, abc, api.Text, api.OK}, {great, abc[:2], 0, api.ErrName}} {
		if kind, why := expr.Type(x.e, x.cols); kind != x.kind || why != x.why {
			t.Errorf("%d, error %d, not %d, error %d", kind, why, x.kind, x.why)
		}
	}
}

// roomyExpr returns a copy of e whose lists have room with something in it.
func roomyExpr(e api.Expr) api.Expr {
	if len(e.Kids) == 0 {
		return e
	}
	kids := make([]api.Expr, len(e.Kids), 2*len(e.Kids)+3)
	for i := range e.Kids {
		kids[i] = roomyExpr(e.Kids[i])
	}
	spare := kids[len(kids):cap(kids)]
	for i := range spare {
		spare[i] = column("spare")
	}
	e.Kids = kids
	return e
}

// allExprs returns e as it is, with what its lists have room for.
func allExprs(e api.Expr) []api.Expr {
	out := []api.Expr{e}
	for _, kid := range e.Kids[:cap(e.Kids)] {
		out = append(out, allExprs(kid)...)
	}
	return out
}

// Arguments, also what their lists have room for, are as they were whatever is called.
func TestArgumentsStayAsTheyAre(t *testing.T) {
	cols := append(make([]api.Col, 0, 9), abc...)
	values := append(make([]api.Value, 0, 9), abcRow...)
	copy(cols[4:9], []api.Col{{Name: "zz", Kind: api.Int}, {Name: "e", Kind: api.Text}})
	copy(values[4:9], []api.Value{{Kind: api.Int, N: 1}, {Kind: api.Text, S: "e"}})
	wasCols, wasValues := slices.Clone(cols[:9]), slices.Clone(values[:9])
	for _, s := range []string{"a", "(add a 1)", `(if (lt a 0) (cat "x" d) c)`, "(add b (neg (neg a)))", "(add a c)", "(add zz d)", "(or a (mul b b))", `(len "x")`, `(cat e e)`} {
		e := roomyExpr(made(t, s))
		before := allExprs(e)
		expr.Tree(e)
		expr.Type(e, cols)
		expr.Eval(e, cols, api.Row(values))
		expr.Eval(e, cols, api.Row(values[:3]))
		expr.Uses(e)
		if !slices.EqualFunc(allExprs(e), before, same) {
			t.Errorf("%s: changed", s)
		}
		if !slices.Equal(cols[:9], wasCols) || !slices.Equal(values[:9], wasValues) {
			t.Errorf("%s: columns or row changed", s)
		}
	}
	// What there is room for is not there.
	if _, why := expr.Type(column("zz"), cols); why != api.ErrName {
		t.Errorf("error %d", why)
	}
	if _, why := expr.Eval(column("a"), cols[:5], api.Row(values)); why != api.ErrType {
		t.Errorf("error %d", why)
	}
}
