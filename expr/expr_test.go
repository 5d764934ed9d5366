package expr_test

import (
	"fmt"
	"math"
	"math/rand"
	"slices"
	"strings"
	"testing"

	"confluence/api"
	"confluence/expr"
	"confluence/sexp"
)

// longest is as long as a text may be.
var longest = strings.Repeat("z", api.MaxText)

// counts tells how many operands each operation has.
var counts = map[string]int{"add": 2, "sub": 2, "mul": 2, "eq": 2, "lt": 2, "and": 2, "or": 2, "cat": 2, "neg": 1, "not": 1, "len": 1, "if": 3}

// ops are the operations, in order.
var ops = []string{"add", "and", "cat", "eq", "if", "len", "lt", "mul", "neg", "not", "or", "sub"}

// otherWords are those that are neither names nor operations.
var otherWords = []string{"table", "filter", "project", "join", "union", "distinct", "group", "count", "sum", "min", "max"}

func open(at int, kids ...sexp.Tree) sexp.Tree {
	return sexp.Tree{Kind: sexp.Open, Kids: kids, At: at}
}

func atom(at int, s string) sexp.Tree { return sexp.Tree{Kind: sexp.Atom, S: s, At: at} }

func whole(at int, n int64) sexp.Tree { return sexp.Tree{Kind: sexp.Num, N: n, At: at} }

func text(at int, s string) sexp.Tree { return sexp.Tree{Kind: sexp.Str, S: s, At: at} }

// call is an operation with operands; its Atom stands just behind the bracket.
func call(at int, op string, operands ...sexp.Tree) sexp.Tree {
	return open(at, append([]sexp.Tree{atom(at+1, op)}, operands...)...)
}

func column(s string) api.Expr { return api.Expr{Kind: api.Column, S: s} }

func number(n int64) api.Expr { return api.Expr{Kind: api.Number, N: n} }

func quoted(s string) api.Expr { return api.Expr{Kind: api.String, S: s} }

func apply(op string, kids ...api.Expr) api.Expr { return api.Expr{Kind: api.Apply, S: op, Kids: kids} }

// sameTree compares everything of two trees. A list of no Kids may be nil or not.
func sameTree(a, b sexp.Tree) bool {
	return a.Kind == b.Kind && a.S == b.S && a.N == b.N && a.At == b.At && slices.EqualFunc(a.Kids, b.Kids, sameTree)
}

func same(a, b api.Expr) bool {
	return a.Kind == b.Kind && a.S == b.S && a.N == b.N && slices.EqualFunc(a.Kids, b.Kids, same)
}

func isZero(e api.Expr) bool { return same(e, api.Expr{}) }

// moved returns a copy of t with all offsets 0.
func moved(t sexp.Tree) sexp.Tree {
	c := sexp.Tree{Kind: t.Kind, S: t.S, N: t.N}
	for _, kid := range t.Kids {
		c.Kids = append(c.Kids, moved(kid))
	}
	return c
}

// copied returns a copy of e that shares nothing with it.
func copied(e api.Expr) api.Expr {
	c := api.Expr{Kind: e.Kind, S: e.S, N: e.N}
	for _, kid := range e.Kids {
		c.Kids = append(c.Kids, copied(kid))
	}
	return c
}

func tell(x any) string { return fmt.Sprintf("%.400s", fmt.Sprintf("%+q", fmt.Sprint(x))) }

// parsed returns the tree that s represents.
func parsed(t *testing.T, s string) sexp.Tree {
	t.Helper()
	tree, why, at := sexp.Read(s)
	if why != api.OK {
		t.Fatalf("%s: no tree: error %d at %d", s, why, at)
	}
	return tree
}

// made returns the expression that s represents.
func made(t *testing.T, s string) api.Expr {
	t.Helper()
	e, why, at := expr.Read(parsed(t, s))
	if why != api.OK {
		t.Fatalf("%s: no expression: error %d at %d", s, why, at)
	}
	return e
}

// reads checks that Read of a tree is an expression.
func reads(t *testing.T, tree sexp.Tree, want api.Expr) {
	t.Helper()
	got, why, at := expr.Read(tree)
	if why != api.OK || at != 0 {
		t.Errorf("Read of %s: error %d at %d", tell(tree), why, at)
	} else if !same(got, want) {
		t.Errorf("Read of %s: %s, not %s", tell(tree), tell(got), tell(want))
	}
}

// fails checks that Read of a tree is an error.
func fails(t *testing.T, tree sexp.Tree, why api.Errno, at int) {
	t.Helper()
	got, w, a := expr.Read(tree)
	if w != why || a != at {
		t.Errorf("Read of %s: error %d at %d, not %d at %d", tell(tree), w, a, why, at)
	}
	if w != api.OK && !isZero(got) {
		t.Errorf("Read of %s: %s beside error %d", tell(tree), tell(got), w)
	}
}

// failsText is fails for the tree of a text.
func failsText(t *testing.T, s string, why api.Errno, at int) {
	t.Helper()
	fails(t, parsed(t, s), why, at)
}

// good returns n operands without an error, which stand at offsets from at on.
func good(at, n int) []sexp.Tree {
	all := []sexp.Tree{atom(at, "a"), whole(at+2, 3), text(at+4, "x"), call(at+6, "neg", atom(at+11, "b")), atom(at+14, "c"), atom(at+16, "d")}
	return all[:n]
}

func TestP81ReadOfEachKindAlone(t *testing.T) {
	for _, at := range []int{0, 1, 7, 599, -3} {
		reads(t, atom(at, "a"), column("a"))
		reads(t, atom(at, "abc"), column("abc"))
		for _, n := range []int64{0, 1, -1, 42, math.MaxInt64, math.MinInt64} {
			reads(t, whole(at, n), number(n))
		}
		for _, s := range []string{"", "x", "a b", "add", "\x00\xff\"\\\n", longest} {
			reads(t, text(at, s), quoted(s))
		}
		reads(t, call(at, "neg", atom(at+5, "a")), apply("neg", column("a")))
	}
}

func TestP81ReadOfTexts(t *testing.T) {
	for s, want := range map[string]api.Expr{
		"a":                         column("a"),
		" \n a":                     column("a"),
		"-3":                        number(-3),
		`"x\22"`:                    quoted(`x"`),
		"(add a 1)":                 apply("add", column("a"), number(1)),
		"(sub 1 a)":                 apply("sub", number(1), column("a")),
		"(mul a b)":                 apply("mul", column("a"), column("b")),
		"(neg 5)":                   apply("neg", number(5)),
		`(eq a "a")`:                apply("eq", column("a"), quoted("a")),
		"(lt a 5)":                  apply("lt", column("a"), number(5)),
		"(and (lt a 5) (not b))":    apply("and", apply("lt", column("a"), number(5)), apply("not", column("b"))),
		"(or 2 0)":                  apply("or", number(2), number(0)),
		`(cat "x" (cat a ""))`:      apply("cat", quoted("x"), apply("cat", column("a"), quoted(""))),
		"(len c)":                   apply("len", column("c")),
		"(if (lt a 0) (neg a) a)":   apply("if", apply("lt", column("a"), number(0)), apply("neg", column("a")), column("a")),
		"(if(if a b c)(if d e f)9)": apply("if", apply("if", column("a"), column("b"), column("c")), apply("if", column("d"), column("e"), column("f")), number(9)),
	} {
		reads(t, parsed(t, s), want)
	}
}

func TestP81ReadDoesNotAskForTypes(t *testing.T) {
	reads(t, parsed(t, `(add "x" "y")`), apply("add", quoted("x"), quoted("y")))
	reads(t, parsed(t, `(len 3)`), apply("len", number(3)))
	reads(t, parsed(t, `(if "x" 1 "y")`), apply("if", quoted("x"), number(1), quoted("y")))
	reads(t, parsed(t, `(neg -9223372036854775808)`), apply("neg", number(math.MinInt64)))
}

// names tells of texts whether they are names.
var names = map[string]bool{
	"a": true, "z": true, "ab": true, "abcdefghijkl": true, "zzzzzzzzzzzz": true, "opqrstuvwxyz": true,
	"ad": true, "addd": true, "addadd": true, "i": true, "iff": true, "no": true, "nota": true, "tables": true, "xor": true, "o": true,
	"": false, "abcdefghijklm": false, "zzzzzzzzzzzzzzzzzzzzzzzzz": false,
	"A": false, "aB": false, "a1": false, "1": false, "a_b": false, "a b": false, " a": false, "a ": false, "a-b": false, "ä": false, "a\x00": false, "`": false, "{": false, "\xff": false,
}

func TestP81Names(t *testing.T) {
	for s, is := range names {
		if is {
			reads(t, atom(4, s), column(s))
			reads(t, call(0, "neg", atom(5, s)), apply("neg", column(s)))
			reads(t, call(0, "if", atom(4, "a"), whole(6, 1), atom(8, s)), apply("if", column("a"), number(1), column(s)))
			continue
		}
		fails(t, atom(4, s), api.ErrName, 4)
		fails(t, call(0, "neg", atom(5, s)), api.ErrName, 5)
		fails(t, call(0, "if", atom(4, "a"), whole(6, 1), atom(8, s)), api.ErrName, 8)
	}
	for n := 1; n < 50; n++ {
		s := strings.Repeat("q", n)
		if n <= api.MaxName {
			reads(t, atom(1, s), column(s))
		} else {
			fails(t, atom(1, s), api.ErrName, 1)
		}
	}
}

func TestP81WordsAreNoNames(t *testing.T) {
	for _, s := range slices.Concat(ops, otherWords) {
		fails(t, atom(0, s), api.ErrName, 0)
		fails(t, atom(9, s), api.ErrName, 9)
		fails(t, call(0, "not", atom(5, s)), api.ErrName, 5)
		fails(t, call(0, "add", atom(5, s), atom(9, "a")), api.ErrName, 5)
		fails(t, call(0, "add", atom(5, "a"), atom(7, s)), api.ErrName, 7)
	}
}

func TestP81EachNumberOfOperands(t *testing.T) {
	wrongs := []sexp.Tree{atom(20, "add"), open(30), call(40, "neg"), {Kind: 9, At: 50}, call(60, "foo", atom(65, "a"))}
	errors := []api.Errno{api.ErrName, api.ErrForm, api.ErrCount, api.ErrForm, api.ErrForm}
	for _, op := range ops {
		for n := range 6 {
			tree := call(8, op, good(20, n)...)
			if n == counts[op] {
				got, why, at := expr.Read(tree)
				if why != api.OK || at != 0 || got.S != op || len(got.Kids) != n {
					t.Errorf("%s of %d: %s, error %d at %d", op, n, tell(got), why, at)
				}
			} else {
				fails(t, tree, api.ErrCount, 8)
			}
			// A wrong number counts ahead of whatever is wrong with the operands.
			for i := range n {
				for k, wrong := range wrongs {
					operands := good(20, n)
					operands[i] = wrong
					if n == counts[op] {
						fails(t, call(8, op, operands...), errors[k], wrong.At)
					} else {
						fails(t, call(8, op, operands...), api.ErrCount, 8)
					}
				}
			}
		}
		fails(t, call(8, op, slices.Repeat([]sexp.Tree{atom(20, "a")}, 1000)...), api.ErrCount, 8)
	}
}

func TestP81OperandsAtAnyDepth(t *testing.T) {
	for _, op := range ops {
		for i := range counts[op] {
			for k, inner := range []struct {
				tree sexp.Tree
				why  api.Errno
				at   int
			}{
				{atom(77, "table"), api.ErrName, 77},
				{open(77), api.ErrForm, 77},
				{open(77, whole(78, 1)), api.ErrForm, 77},
				{call(77, "neg"), api.ErrCount, 77},
				{call(77, "neg", atom(82, "a"), atom(84, "add")), api.ErrCount, 77},
				{call(77, "add", atom(82, "a"), atom(84, "add")), api.ErrName, 84},
				{sexp.Tree{Kind: -1, At: 77}, api.ErrForm, 77},
			} {
				tree := inner.tree
				for range 20 {
					operands := good(20, counts[op])
					operands[i] = tree
					tree = call(k, op, operands...)
					fails(t, tree, inner.why, inner.at)
				}
			}
		}
	}
}

func TestP81AnOpenThatIsNoOperation(t *testing.T) {
	fails(t, open(5), api.ErrForm, 5)
	fails(t, sexp.Tree{Kind: sexp.Open, Kids: []sexp.Tree{}, At: 5}, api.ErrForm, 5)
	for _, operands := range [][]sexp.Tree{nil, good(9, 1), good(9, 2), good(9, 3), {atom(9, "add")}, {open(9)}, {{Kind: 7, At: 9}, call(11, "neg")}} {
		for _, word := range slices.Concat(otherWords, []string{"a", "foo", "", "ad", "addd", "Add", "ADD", "add ", " add", "ne", "iff", "i", "plus", "\x00", "add\x00", strings.Repeat("add", 100)}) {
			fails(t, call(5, word, operands...), api.ErrForm, 5)
			fails(t, call(0, "neg", call(5, word, operands...)), api.ErrForm, 5)
		}
		for _, first := range []sexp.Tree{whole(6, 1), text(6, "add"), text(6, "neg"), open(6), open(6, atom(7, "neg")), call(6, "neg", atom(10, "a")), {Kind: 0, S: "neg", At: 6}, {Kind: 5, S: "neg", At: 6}, {Kind: -2, S: "add", At: 6}} {
			fails(t, open(5, append([]sexp.Tree{first}, operands...)...), api.ErrForm, 5)
			fails(t, call(0, "neg", open(5, append([]sexp.Tree{first}, operands...)...)), api.ErrForm, 5)
		}
	}
	failsText(t, "()", api.ErrForm, 0)
	failsText(t, "(a)", api.ErrForm, 0)
	failsText(t, "(1 2)", api.ErrForm, 0)
	failsText(t, `("add" 1 2)`, api.ErrForm, 0)
	failsText(t, "((add) 1 2)", api.ErrForm, 0)
	failsText(t, "((add 1 2))", api.ErrForm, 0)
	failsText(t, "(neg ())", api.ErrForm, 5)
	failsText(t, "(neg (sum a))", api.ErrForm, 5)
}

// noKinds are Kinds that no tree and no expression has.
var noKinds = []int{0, -1, -2, 5, 6, 100, 256 + sexp.Open, 256 + sexp.Num, math.MaxInt, math.MinInt}

func TestP81OtherKindsOfTrees(t *testing.T) {
	for _, kind := range noKinds {
		for _, x := range []sexp.Tree{{Kind: kind}, {Kind: kind, S: "a"}, {Kind: kind, N: 3}, {Kind: kind, Kids: call(0, "neg", atom(0, "a")).Kids}} {
			x.At = 13
			fails(t, x, api.ErrForm, 13)
			fails(t, call(2, "neg", x), api.ErrForm, 13)
			fails(t, call(2, "add", x, atom(20, "add")), api.ErrForm, 13)
			fails(t, call(2, "add", atom(9, "add"), x), api.ErrName, 9)
			fails(t, call(2, "if", atom(3, "a"), call(4, "neg", x), x), api.ErrForm, 13)
		}
	}
}

func TestP81WhatTheKindDoesNotUseDoesNotMatter(t *testing.T) {
	kids := []sexp.Tree{atom(3, "table"), open(5)}
	reads(t, sexp.Tree{Kind: sexp.Atom, S: "a", N: 7, Kids: kids, At: 1}, column("a"))
	reads(t, sexp.Tree{Kind: sexp.Num, S: "s", N: 7, Kids: kids, At: 1}, number(7))
	reads(t, sexp.Tree{Kind: sexp.Str, S: "s", N: 7, Kids: kids, At: 1}, quoted("s"))
	op := sexp.Tree{Kind: sexp.Atom, S: "neg", N: 7, Kids: kids, At: 1}
	reads(t, sexp.Tree{Kind: sexp.Open, S: "s", N: 7, Kids: []sexp.Tree{op, atom(5, "a")}, At: 1}, apply("neg", column("a")))
	reads(t, sexp.Tree{Kind: sexp.Atom, S: "a", Kids: ring(3), At: 1}, column("a"))
}

// sexp.Read returns no such text, but a Str is a String whatever its length: only cat asks for it.
func TestP81ATextThatIsTooLongIsTakenAsItIs(t *testing.T) {
	long := longest + "z"
	reads(t, text(3, long), quoted(long))
	if got := expr.Tree(quoted(long)); !sameTree(got, text(0, long)) {
		t.Error(tell(got))
	}
	if kind, why := expr.Type(quoted(long), nil); kind != api.Text || why != api.OK {
		t.Errorf("%d, error %d", kind, why)
	}
	if v, why := expr.Eval(apply("cat", quoted(long), quoted("")), nil, nil); v != (api.Value{}) || why != api.ErrLong {
		t.Errorf("%v, error %d", v, why)
	}
}

func TestP81TheFirstErrorFromLeftToRight(t *testing.T) {
	failsText(t, "(add table filter)", api.ErrName, 5)
	failsText(t, "(add (neg) table)", api.ErrCount, 5)
	failsText(t, "(add table (neg))", api.ErrName, 5)
	failsText(t, "(add (neg table) (neg))", api.ErrName, 10)
	failsText(t, "(add a (neg))", api.ErrCount, 7)
	failsText(t, "(add () table)", api.ErrForm, 5)
	failsText(t, "(add (foo) (neg))", api.ErrForm, 5)
	failsText(t, "(if a (add (neg b) (len)) table)", api.ErrCount, 19)
	failsText(t, "(if a (add (neg b) (len c)) table)", api.ErrName, 28)
	failsText(t, "(if a (add (neg b) (len c)) table 4)", api.ErrCount, 0)
	failsText(t, "(foo table)", api.ErrForm, 0)
	failsText(t, "(neg (foo table) b)", api.ErrCount, 0)
	failsText(t, "(neg (foo table))", api.ErrForm, 5)
	failsText(t, `(cat "x" (cat (len add sub) (foo)))`, api.ErrCount, 14)
	failsText(t, "abcdefghijklm", api.ErrName, 0)
	failsText(t, "(neg\n abcdefghijklm)", api.ErrName, 6)
}

// What stands on the left counts, not what has the lower offset.
func TestP81LeftIsWhereATreeStands(t *testing.T) {
	fails(t, call(50, "add", atom(40, "add"), open(30)), api.ErrName, 40)
	fails(t, call(50, "add", call(9, "neg", open(41)), open(-30)), api.ErrForm, 41)
	fails(t, call(50, "if", atom(3, "a"), call(2, "len"), atom(1, "if")), api.ErrCount, 2)
	fails(t, call(math.MinInt, "add"), api.ErrCount, math.MinInt)
	fails(t, call(-1, "neg", atom(math.MaxInt, "")), api.ErrName, math.MaxInt)
}

// deepest returns a tree of n brackets, one in the other.
func deepest(n int) sexp.Tree {
	tree := atom(5*n, "a")
	for i := n - 1; i >= 0; i-- {
		tree = call(5*i, "neg", tree)
	}
	return tree
}

func TestP81DeepAndGreatTrees(t *testing.T) {
	for _, n := range []int{1, 11, 12, 13, 49} {
		got, why, _ := expr.Read(deepest(n))
		if why != api.OK {
			t.Fatalf("depth %d: error %d", n, why)
		}
		if !sameTree(expr.Tree(got), moved(deepest(n))) {
			t.Errorf("depth %d: %s", n, tell(expr.Tree(got)))
		}
		for ; n > 0; n-- {
			if got.Kind != api.Apply || got.S != "neg" || len(got.Kids) != 1 {
				t.Fatal(tell(got))
			}
			got = got.Kids[0]
		}
	}
	// A balanced tree of 9 levels has 511 columns and 511 brackets with an Atom each.
	tree, want := atom(3, "a"), column("a")
	for range 9 {
		tree, want = call(0, "add", tree, tree), apply("add", want, want)
	}
	reads(t, tree, want)
	if !sameTree(expr.Tree(want), moved(tree)) {
		t.Error("Tree of a great expression")
	}
}

// ring returns n operations whose Kids are all of them, so that they have no end.
func ring(n int) []sexp.Tree {
	all := make([]sexp.Tree, n)
	for i := range all {
		all[i] = sexp.Tree{Kind: sexp.Open, Kids: all}
	}
	return all
}

func TestP81ReadOfATreeWithoutEndEnds(t *testing.T) {
	for _, n := range []int{1, 2, 3, 50} {
		for _, tree := range ring(n) {
			expr.Read(tree)
			expr.Read(call(0, "neg", tree))
		}
	}
	for op, n := range counts {
		kids := make([]sexp.Tree, n+1)
		kids[0] = atom(0, op)
		for i := range n {
			kids[1+i] = sexp.Tree{Kind: sexp.Open, Kids: kids}
		}
		expr.Read(open(0, kids...))
	}
	twice := atom(0, "a")
	for range 60 {
		twice = call(0, "add", twice, twice)
	}
	expr.Read(twice)
	for _, n := range []int{51, 1000, 8000, 16000, 1 << 14, 1 << 16, 1 << 20} {
		expr.Read(deepest(n))
	}
}

// exprRing returns operations of n operands whose Kids are themselves.
func exprRing(op string, n int) []api.Expr {
	all := make([]api.Expr, n)
	for i := range all {
		all[i] = api.Expr{Kind: api.Apply, S: op, Kids: all}
	}
	return all
}

// endless returns expressions that have no end, or none that anybody could wait for.
func endless() []api.Expr {
	var all []api.Expr
	for _, kind := range append([]int{api.Column, api.Number, api.String, api.Apply}, noKinds...) {
		loop := make([]api.Expr, 2)
		loop[0], loop[1] = api.Expr{Kind: kind, Kids: loop}, api.Expr{Kind: kind, S: "neg", Kids: loop}
		all = append(all, loop...)
	}
	for op, n := range counts {
		all = append(all, exprRing(op, n)...)
	}
	twice := column("a")
	for range 60 {
		twice = apply("add", twice, twice)
	}
	all = append(all, twice)
	for _, n := range []int{51, 1000, 8000, 16000, 1 << 14, 1 << 16, 1 << 20} {
		deep := column("a")
		for range n {
			deep = apply("neg", deep)
		}
		all = append(all, deep)
	}
	return all
}

func TestP81TreeOfAnExpressionWithoutEndEnds(t *testing.T) {
	for _, e := range endless() {
		expr.Tree(e)
	}
}

func TestP81TreeOfEachKind(t *testing.T) {
	for _, x := range []struct {
		e    api.Expr
		want sexp.Tree
	}{
		{column("a"), atom(0, "a")},
		{column("abcdefghijkl"), atom(0, "abcdefghijkl")},
		{number(0), whole(0, 0)},
		{number(math.MinInt64), whole(0, math.MinInt64)},
		{number(math.MaxInt64), whole(0, math.MaxInt64)},
		{quoted(""), text(0, "")},
		{quoted(longest), text(0, longest)},
		{quoted("add\x00\xff\""), text(0, "add\x00\xff\"")},
		{api.Expr{Kind: api.Column, S: "a", Kids: []api.Expr{}}, atom(0, "a")},
		{api.Expr{Kind: api.Number, N: 2, Kids: []api.Expr{}}, whole(0, 2)},
		{api.Expr{Kind: api.String, S: "x", Kids: []api.Expr{}}, text(0, "x")},
		{apply("neg", column("a")), open(0, atom(0, "neg"), atom(0, "a"))},
		{apply("cat", quoted("x"), number(3)), open(0, atom(0, "cat"), text(0, "x"), whole(0, 3))},
		{apply("if", column("a"), apply("not", column("b")), quoted("")), open(0, atom(0, "if"), atom(0, "a"), open(0, atom(0, "not"), atom(0, "b")), text(0, ""))},
	} {
		if got := expr.Tree(x.e); !sameTree(got, x.want) {
			t.Errorf("Tree of %s: %s, not %s", tell(x.e), tell(got), tell(x.want))
		}
	}
	for _, op := range ops {
		tree := call(7, op, good(20, counts[op])...)
		e, why, _ := expr.Read(tree)
		if got := expr.Tree(e); why != api.OK || !sameTree(got, moved(tree)) {
			t.Errorf("%s: %s, error %d", op, tell(got), why)
		}
	}
}

// hasNoTree checks that e, and whatever e is within, can't have come from Read.
func hasNoTree(t *testing.T, e api.Expr) {
	t.Helper()
	for _, x := range []api.Expr{e, apply("neg", e), apply("add", e, column("a")), apply("add", number(1), e), apply("if", column("a"), apply("cat", quoted(""), e), column("b")), apply("if", e, e, e), apply("not", apply("not", apply("not", apply("not", e))))} {
		if got := expr.Tree(x); !sameTree(got, open(0)) {
			t.Errorf("Tree of %s: %s", tell(x), tell(got))
		}
		if kind, why := expr.Type(x, abc); kind != 0 || why != api.ErrType {
			t.Errorf("Type of %s: %d, error %d", tell(x), kind, why)
		}
		if v, why := expr.Eval(x, abc, abcRow); v != (api.Value{}) || why != api.ErrType {
			t.Errorf("Eval of %s: %v, error %d", tell(x), v, why)
		}
	}
}

func TestP81TreeOfWhatReadCannotReturn(t *testing.T) {
	kids := []api.Expr{column("a")}
	for _, kind := range noKinds {
		hasNoTree(t, api.Expr{Kind: kind})
		hasNoTree(t, api.Expr{Kind: kind, S: "a"})
		hasNoTree(t, api.Expr{Kind: kind, N: 1})
		hasNoTree(t, api.Expr{Kind: kind, S: "neg", Kids: kids})
	}
	for s, is := range names {
		if !is {
			hasNoTree(t, column(s))
		}
	}
	for _, s := range slices.Concat(ops, otherWords) {
		hasNoTree(t, column(s))
	}
	for _, n := range []int64{1, -1, 1 << 40, math.MaxInt64, math.MinInt64} {
		hasNoTree(t, api.Expr{Kind: api.Column, S: "a", N: n})
		hasNoTree(t, api.Expr{Kind: api.String, S: "a", N: n})
		hasNoTree(t, api.Expr{Kind: api.String, N: n})
		hasNoTree(t, api.Expr{Kind: api.Apply, S: "neg", N: n, Kids: kids})
	}
	for _, s := range []string{"a", "3", " ", "\x00", "neg", longest} {
		hasNoTree(t, api.Expr{Kind: api.Number, S: s})
		hasNoTree(t, api.Expr{Kind: api.Number, S: s, N: 3})
	}
	hasNoTree(t, api.Expr{Kind: api.Column, S: "a", Kids: kids})
	hasNoTree(t, api.Expr{Kind: api.Number, N: 3, Kids: kids})
	hasNoTree(t, api.Expr{Kind: api.String, S: "a", Kids: kids})
}

func TestP81TreeOfOperationsThatAreNone(t *testing.T) {
	for n := range 6 {
		operands := []api.Expr{column("a"), number(3), column("b"), number(0), quoted("x"), column("c")}[:n]
		for _, word := range slices.Concat(otherWords, []string{"a", "foo", "", "ad", "addd", "Neg", "neg ", "\x00", strings.Repeat("if", 100)}) {
			hasNoTree(t, apply(word, operands...))
		}
		for _, op := range ops {
			if n != counts[op] {
				hasNoTree(t, apply(op, operands...))
			}
		}
	}
	hasNoTree(t, api.Expr{Kind: api.Apply})
	hasNoTree(t, api.Expr{Kind: api.Apply, Kids: []api.Expr{}})
	hasNoTree(t, apply("", column("a")))
}

// Whatever a tree is turned into, Tree of what Read gave is that tree, with all offsets 0.
func TestP81TreeOfWhatReadReturned(t *testing.T) {
	x := rand.New(rand.NewSource(81))
	for range 5000 {
		tree := expr.Tree(some(x, anyKind, 5))
		spread(&tree, x)
		e, why, at := expr.Read(tree)
		if why != api.OK || at != 0 {
			t.Fatalf("%s: error %d at %d", tell(tree), why, at)
		}
		if !sameTree(expr.Tree(e), moved(tree)) {
			t.Fatalf("%s became %s", tell(tree), tell(expr.Tree(e)))
		}
	}
}

// spread gives all trees in t some offset.
func spread(t *sexp.Tree, x *rand.Rand) {
	t.At = x.Intn(1000)
	for i := range t.Kids {
		spread(&t.Kids[i], x)
	}
}

// roomy returns a copy of t whose lists have room with something in it.
func roomy(t sexp.Tree) sexp.Tree {
	if len(t.Kids) == 0 {
		return t
	}
	kids := make([]sexp.Tree, len(t.Kids), 2*len(t.Kids)+3)
	for i := range t.Kids {
		kids[i] = roomy(t.Kids[i])
	}
	spare := kids[len(kids):cap(kids)]
	for i := range spare {
		spare[i] = text(i, "spare")
	}
	t.Kids = kids
	return t
}

// all returns t as it is, with what its lists have room for.
func all(t sexp.Tree) []sexp.Tree {
	out := []sexp.Tree{t}
	for _, kid := range t.Kids[:cap(t.Kids)] {
		out = append(out, all(kid)...)
	}
	return out
}

func TestP81ReadChangesNothing(t *testing.T) {
	for _, s := range []string{"a", "(add a 1)", `(if (lt a 0) (cat "x" b) (add 1 2))`, "(neg (neg (neg a)))", "(add a table)", "(add a)", "(neg (foo a b c))", "(if a b (neg c d))"} {
		tree := roomy(parsed(t, s))
		before := all(tree)
		first, why, at := expr.Read(tree)
		again, w, a := expr.Read(tree)
		if !slices.EqualFunc(all(tree), before, sameTree) {
			t.Errorf("%s: changed", s)
		}
		if !same(first, again) || w != why || a != at {
			t.Errorf("%s: %s, then %s", s, tell(first), tell(again))
		}
	}
}

// spoil turns everything of e, also what its lists have room for.
func spoil(e *api.Expr) {
	kids := e.Kids[:cap(e.Kids)]
	for i := range kids {
		spoil(&kids[i])
	}
	e.Kind, e.S, e.N = 9, "spoilt", 77
}

func spoilTree(t *sexp.Tree) {
	kids := t.Kids[:cap(t.Kids)]
	for i := range kids {
		spoilTree(&kids[i])
	}
	t.Kind, t.S, t.N, t.At = 9, "spoilt", 77, 78
}

func TestP81WhatReadReturnedIsNewMemory(t *testing.T) {
	for _, s := range []string{"a", "(add a 1)", `(if (lt a 0) (cat "x" b) (add 1 2))`, "(neg (neg (neg a)))"} {
		tree := roomy(parsed(t, s))
		before := all(tree)
		e, _, _ := expr.Read(tree)
		want := copied(e)
		other, _, _ := expr.Read(tree)
		spoil(&other)
		if !same(e, want) || !slices.EqualFunc(all(tree), before, sameTree) {
			t.Errorf("%s: shared", s)
		}
		spoilTree(&tree)
		if !same(e, want) {
			t.Errorf("%s: kept", s)
		}
	}
}

func TestP81WhatTreeReturnedIsNewMemory(t *testing.T) {
	for _, s := range []string{"a", "(add a 1)", `(if (lt a 0) (cat "x" b) (add 1 2))`, "(neg (neg (neg a)))"} {
		e := made(t, s)
		was := copied(e)
		tree := expr.Tree(e)
		want := moved(tree)
		other := expr.Tree(e)
		spoilTree(&other)
		if !same(e, was) || !sameTree(tree, want) {
			t.Errorf("%s: shared", s)
		}
		spoil(&e)
		if !sameTree(tree, want) {
			t.Errorf("%s: kept", s)
		}
	}
	none := expr.Tree(api.Expr{})
	spoilTree(&none)
	if !sameTree(expr.Tree(api.Expr{}), open(0)) {
		t.Error("the empty Open is shared")
	}
}

// Lists that a tree or an expression has several times become lists of their own.
func TestP81NoTwoListsOfAResultShareMemory(t *testing.T) {
	tree, e := call(0, "neg", atom(0, "a")), apply("neg", column("a"))
	for range 4 {
		tree, e = call(0, "add", tree, tree), apply("add", e, e)
	}
	got, why, _ := expr.Read(tree)
	if why != api.OK {
		t.Fatal(why)
	}
	n := mark(&got, 1)
	if bad := unmarked(got, 1); bad != n {
		t.Errorf("%d lists of an expression, but %d", n-1, bad-1)
	}
	printed := expr.Tree(e)
	n = markTree(&printed, 1)
	if bad := unmarkedTree(printed, 1); bad != n {
		t.Errorf("%d lists of a tree, but %d", n-1, bad-1)
	}
}

// mark gives each part of e, and of its lists' room, a number from n on, and returns the next one.
func mark(e *api.Expr, n int64) int64 {
	e.N = n
	n++
	kids := e.Kids[:cap(e.Kids)]
	for i := range kids {
		n = mark(&kids[i], n)
	}
	return n
}

// unmarked returns the number that mark would return if all numbers were as it left them, or the first that is not.
func unmarked(e api.Expr, n int64) int64 {
	if e.N != n {
		return n
	}
	n++
	for _, kid := range e.Kids[:cap(e.Kids)] {
		n = unmarked(kid, n)
	}
	return n
}

func markTree(t *sexp.Tree, n int64) int64 {
	t.N = n
	n++
	kids := t.Kids[:cap(t.Kids)]
	for i := range kids {
		n = markTree(&kids[i], n)
	}
	return n
}

func unmarkedTree(t sexp.Tree, n int64) int64 {
	if t.N != n {
		return n
	}
	n++
	for _, kid := range t.Kids[:cap(t.Kids)] {
		n = unmarkedTree(kid, n)
	}
	return n
}
