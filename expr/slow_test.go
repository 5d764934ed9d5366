package expr_test

import (
	"math/big"
	"math/rand"
	"slices"
	"strings"
	"testing"

	"confluence/api"
	"confluence/expr"
	"confluence/row"
	"confluence/sexp"
)

// anyKind lets some choose the Kind.
const anyKind = 0

// signs tell of each operation the Kinds of its operands and what it makes: i and t are Int and Text, s is any Kind, but the same one everywhere.
var signs = map[string]string{"add": "iii", "sub": "iii", "mul": "iii", "neg": "ii", "and": "iii", "or": "iii", "not": "ii", "eq": "ssi", "lt": "ssi", "cat": "ttt", "len": "ti", "if": "isss"}

// naive returns the tree of e by its words, right or not.
func naive(e api.Expr) sexp.Tree {
	switch e.Kind {
	case api.Column:
		return atom(0, e.S)
	case api.Number:
		return whole(0, e.N)
	case api.String:
		return text(0, e.S)
	case api.Apply:
		tree := call(0, e.S)
		for _, kid := range e.Kids {
			tree.Kids = append(tree.Kids, naive(kid))
		}
		return moved(tree)
	}
	return sexp.Tree{}
}

// canBeRead reports whether Read returns e for the one tree that it may return it for.
func canBeRead(e api.Expr) bool {
	got, why, _ := expr.Read(naive(e))
	return why == api.OK && same(got, e)
}

// slowType returns the Kind of e, which Read can return.
func slowType(e api.Expr, cols []api.Col) (int, api.Errno) {
	switch e.Kind {
	case api.Column:
		for _, c := range cols {
			if c.Name == e.S {
				return c.Kind, api.OK
			}
		}
		return 0, api.ErrName
	case api.Number:
		return api.Int, api.OK
	case api.String:
		return api.Text, api.OK
	}
	sign := signs[e.S]
	anything := 0
	kinds := make([]int, len(e.Kids))
	for i, kid := range e.Kids {
		kind, why := slowType(kid, cols)
		if why != api.OK {
			return 0, why
		}
		kinds[i] = kind
	}
	for i, kind := range kinds {
		want := map[byte]int{'i': api.Int, 't': api.Text}[sign[i]]
		if sign[i] == 's' {
			if anything == 0 {
				anything = kind
			}
			want = anything
		}
		if kind != want {
			return 0, api.ErrType
		}
	}
	return map[byte]int{'i': api.Int, 't': api.Text, 's': anything}[sign[len(sign)-1]], api.OK
}

// slowValue is a number beyond all bounds, or a text.
type slowValue struct {
	n *big.Int
	s string
}

func slowTruth(is bool) slowValue {
	if is {
		return slowValue{n: big.NewInt(1)}
	}
	return slowValue{n: new(big.Int)}
}

// slowEval returns the value of e, which has a Kind, for a row that fits.
func slowEval(e api.Expr, r map[string]slowValue) (slowValue, api.Errno) {
	switch e.Kind {
	case api.Column:
		return r[e.S], api.OK
	case api.Number:
		return slowValue{n: big.NewInt(e.N)}, api.OK
	case api.String:
		return slowValue{s: e.S}, api.OK
	}
	var l []slowValue
	for i, kid := range e.Kids {
		if e.S == "if" && (i == 1 && l[0].n.Sign() == 0 || i == 2 && l[0].n.Sign() != 0) {
			continue
		}
		v, why := slowEval(kid, r)
		if why != api.OK {
			return slowValue{}, why
		}
		l = append(l, v)
	}
	v := slowApply(e.S, l)
	if v.n != nil && !v.n.IsInt64() {
		return slowValue{}, api.ErrOver
	}
	if len(v.s) > api.MaxText {
		return slowValue{}, api.ErrLong
	}
	return v, api.OK
}

func slowApply(op string, l []slowValue) slowValue {
	switch op {
	case "add":
		return slowValue{n: new(big.Int).Add(l[0].n, l[1].n)}
	case "sub":
		return slowValue{n: new(big.Int).Sub(l[0].n, l[1].n)}
	case "mul":
		return slowValue{n: new(big.Int).Mul(l[0].n, l[1].n)}
	case "neg":
		return slowValue{n: new(big.Int).Neg(l[0].n)}
	case "eq":
		return slowTruth(slowOrder(l[0], l[1]) == 0)
	case "lt":
		return slowTruth(slowOrder(l[0], l[1]) < 0)
	case "and":
		return slowTruth(l[0].n.Sign() != 0 && l[1].n.Sign() != 0)
	case "or":
		return slowTruth(l[0].n.Sign() != 0 || l[1].n.Sign() != 0)
	case "not":
		return slowTruth(l[0].n.Sign() == 0)
	case "cat":
		return slowValue{s: l[0].s + l[1].s}
	case "len":
		return slowValue{n: big.NewInt(int64(len(l[0].s)))}
	}
	return l[1]
}

func slowOrder(a, b slowValue) int {
	if a.n != nil {
		return a.n.Cmp(b.n)
	}
	return strings.Compare(a.s, b.s)
}

// slowUses returns the names of the columns in e.
func slowUses(e api.Expr) []string {
	set := map[string]int{}
	var each func(api.Expr)
	each = func(e api.Expr) {
		if e.Kind == api.Column {
			set[e.S]++
		}
		for _, kid := range e.Kids {
			each(kid)
		}
	}
	each(e)
	var names []string
	for name := range set {
		names = append(names, name)
	}
	slices.Sort(names)
	return names
}

// abc are columns of both Kinds, and abcRow is a row of them.
var (
	abc    = []api.Col{{Name: "a", Kind: api.Int}, {Name: "b", Kind: api.Int}, {Name: "c", Kind: api.Text}, {Name: "d", Kind: api.Text}}
	abcRow = api.Row{{Kind: api.Int, N: 3}, {Kind: api.Int, N: -5}, {Kind: api.Text, S: "x"}, {Kind: api.Text, S: ""}}
)

// some returns an expression of a Kind, with operations at most so deep. Columns are those of abc.
func some(x *rand.Rand, kind, deep int) api.Expr {
	if kind == anyKind {
		kind = api.Int + x.Intn(2)
	}
	if deep == 0 || x.Intn(5) == 0 {
		return leaf(x, kind)
	}
	for {
		op := ops[x.Intn(len(ops))]
		sign := signs[op]
		anything := api.Int + x.Intn(2)
		if op == "if" {
			anything = kind
		}
		kinds := map[byte]int{'i': api.Int, 't': api.Text, 's': anything}
		if kinds[sign[len(sign)-1]] != kind {
			continue
		}
		e := apply(op)
		for i := range counts[op] {
			e.Kids = append(e.Kids, some(x, kinds[sign[i]], deep-1))
		}
		return e
	}
}

func leaf(x *rand.Rand, kind int) api.Expr {
	switch column := x.Intn(2) == 0; {
	case kind == api.Int && column:
		return api.Expr{Kind: api.Column, S: abc[x.Intn(2)].Name}
	case kind == api.Int:
		return number(someNumber(x))
	case column:
		return api.Expr{Kind: api.Column, S: abc[2+x.Intn(2)].Name}
	default:
		return quoted(someText(x))
	}
}

// someNumber returns small numbers, and such as are near a power of two or an end.
func someNumber(x *rand.Rand) int64 {
	switch x.Intn(3) {
	case 0:
		return int64(x.Intn(5) - 2)
	case 1:
		return edges[x.Intn(len(edges))]
	}
	return int64(x.Uint64()) >> x.Intn(64)
}

func someText(x *rand.Rand) string {
	return strings.Repeat(string(rune('a'+x.Intn(2))), x.Intn(api.MaxText+1)/(1+x.Intn(9)))
}

func someRow(x *rand.Rand) api.Row {
	return api.Row{{Kind: api.Int, N: someNumber(x)}, {Kind: api.Int, N: someNumber(x)}, {Kind: api.Text, S: someText(x)}, {Kind: api.Text, S: someText(x)}}
}

// slowRow returns the values of r by name.
func slowRow(r api.Row) map[string]slowValue {
	byName := map[string]slowValue{}
	for i, v := range r {
		if v.Kind == api.Int {
			byName[abc[i].Name] = slowValue{n: big.NewInt(v.N)}
		} else {
			byName[abc[i].Name] = slowValue{s: v.S}
		}
	}
	return byName
}

// slowly returns what Eval is to return.
func slowly(e api.Expr, cols []api.Col, r api.Row) (api.Value, api.Errno) {
	if !canBeRead(e) || !row.Fits(cols, r) {
		return api.Value{}, api.ErrType
	}
	if _, why := slowType(e, cols); why != api.OK {
		return api.Value{}, api.ErrType
	}
	v, why := slowEval(e, slowRow(r))
	switch {
	case why != api.OK:
		return api.Value{}, why
	case v.n != nil:
		return api.Value{Kind: api.Int, N: v.n.Int64()}, api.OK
	}
	return api.Value{Kind: api.Text, S: v.s}, api.OK
}

// agree checks Tree, Type, Eval and Uses of e against what the chapter's words make of it.
func agree(t *testing.T, e api.Expr, r api.Row) (int, api.Errno) {
	t.Helper()
	is := canBeRead(e)
	want := open(0)
	kind, why := 0, api.ErrType
	if is {
		want = naive(e)
		kind, why = slowType(e, abc)
	}
	if got := expr.Tree(e); !sameTree(got, want) {
		t.Fatalf("Tree of %s: %s", tell(e), tell(got))
	}
	if k, w := expr.Type(e, abc); k != kind || w != why {
		t.Fatalf("Type of %s: %d, error %d, not %d, error %d", tell(e), k, w, kind, why)
	}
	if got := expr.Uses(e); !slices.Equal(got, slowUses(e)) {
		t.Fatalf("Uses of %s: %v", tell(e), got)
	}
	v, w := slowly(e, abc, r)
	if got, why := expr.Eval(e, abc, r); got != v || why != w {
		t.Fatalf("Eval of %s for %v: %v, error %d, not %v, error %d", tell(sexp.Print(naive(e))), r, got, why, v, w)
	}
	return kind, w
}

func TestP83RandomExpressions(t *testing.T) {
	x := rand.New(rand.NewSource(83))
	answers := map[api.Errno]int{}
	for range 8000 {
		e := some(x, anyKind, 1+x.Intn(5))
		for range 3 {
			_, why := agree(t, e, someRow(x))
			answers[why]++
		}
	}
	for _, why := range []api.Errno{api.OK, api.ErrOver, api.ErrLong} {
		if answers[why] < 1000 {
			t.Errorf("error %d only %d times", why, answers[why])
		}
	}
}

// One part of an expression is turned into something else, right or wrong.
func TestP82RandomExpressionsWithOneOtherPart(t *testing.T) {
	x := rand.New(rand.NewSource(82))
	answers := map[api.Errno]int{}
	for range 20000 {
		e := some(x, anyKind, 1+x.Intn(4))
		turn(&e, x)
		if x.Intn(3) == 0 {
			turn(&e, x)
		}
		agree(t, e, someRow(x))
		if canBeRead(e) {
			_, why := expr.Type(e, abc)
			answers[why]++
		} else {
			answers[-1]++
		}
	}
	for _, why := range []api.Errno{api.OK, api.ErrName, api.ErrType, -1} {
		if answers[why] < 1000 {
			t.Errorf("error %d only %d times", why, answers[why])
		}
	}
}

// turn gives some part of e another Kind, text, number or list of Kids.
func turn(e *api.Expr, x *rand.Rand) {
	for len(e.Kids) > 0 && x.Intn(4) > 0 {
		e = &e.Kids[x.Intn(len(e.Kids))]
	}
	switch x.Intn(12) {
	case 0:
		e.Kind = x.Intn(6)
	case 1:
		e.N = someNumber(x)
	case 2:
		e.S = slices.Concat(ops, otherWords, []string{"a", "c", "zz", "", "A"})[x.Intn(28)]
	case 3:
		e.Kids = append(e.Kids, some(x, anyKind, 1))
	case 4:
		if len(e.Kids) > 0 {
			e.Kids = e.Kids[1:]
		}
	case 5, 6:
		*e = column([]string{"zz", "e", "aa", "add"}[x.Intn(4)])
	default:
		*e = some(x, anyKind, 2)
	}
}
