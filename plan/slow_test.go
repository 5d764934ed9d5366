package plan_test

import (
	"math/rand"
	"regexp"
	"slices"
	"strings"
	"testing"

	"confluence/api"
	"confluence/expr"
	"confluence/plan"
	"confluence/row"
	"confluence/sexp"
	"confluence/value"
)

// shapes tell by an outline which trees have one of the forms: a, n, s and brackets are Atoms, Nums, Strs and Opens.
var shapes = map[string]*regexp.Regexp{
	"table":    regexp.MustCompile(`^aa$`),
	"filter":   regexp.MustCompile(`^aXX$`),
	"project":  regexp.MustCompile(`^a(\(aX\))+X$`),
	"join":     regexp.MustCompile(`^a(\(a*\)){2}XX$`),
	"union":    regexp.MustCompile(`^aXX$`),
	"distinct": regexp.MustCompile(`^aX$`),
	"group":    regexp.MustCompile(`^a\(a*\)(\(aaa?\))*X$`),
}

func init() {
	for word, shape := range shapes {
		shapes[word] = regexp.MustCompile(strings.ReplaceAll(shape.String(), "X", `([ans]|\(([ans]|\(\))*\))`))
	}
}

// outline tells the Kinds of some trees, and of the trees within them, so deep.
func outline(l []sexp.Tree, deep int) string {
	s := ""
	for _, t := range l {
		switch {
		case t.Kind == sexp.Open && deep > 0:
			s += "(" + outline(t.Kids, deep-1) + ")"
		case t.Kind == sexp.Open:
			s += "()"
		default:
			s += map[int]string{sexp.Atom: "a", sexp.Num: "n", sexp.Str: "s"}[t.Kind]
		}
	}
	return s
}

// fault is an error and where it is.
type fault struct {
	why api.Errno
	at  int
}

// slowRead returns what Read is to return, by the chapter's words.
func slowRead(s string) (api.Plan, api.Errno, int) {
	t, why, at := sexp.Read(s)
	if why != api.OK {
		return api.Plan{}, why, at
	}
	p, faults := slowPlan(t)
	if len(faults) > 0 {
		return api.Plan{}, faults[0].why, faults[0].at
	}
	if len(written(p)) > api.MaxPlan {
		return api.Plan{}, api.ErrLong, 0
	}
	return p, api.OK, 0
}

// slowPlan returns all errors of a tree, from left to right.
func slowPlan(t sexp.Tree) (api.Plan, []fault) {
	if t.Kind != sexp.Open || len(t.Kids) == 0 || shapes[t.Kids[0].S] == nil || !shapes[t.Kids[0].S].MatchString(outline(t.Kids, 1)) {
		return api.Plan{}, []fault{{api.ErrForm, t.At}}
	}
	var faults []fault
	note := func(is bool, why api.Errno, at int) {
		if is {
			faults = append(faults, fault{why, at})
		}
	}
	name := func(t sexp.Tree) string {
		note(!row.Name(t.S), api.ErrName, t.At)
		return t.S
	}
	expression := func(t sexp.Tree) api.Expr {
		e, why, at := expr.Read(t)
		note(why != api.OK, why, at)
		return e
	}
	word, parts := t.Kids[0].S, t.Kids[1:]
	kids := map[string]int{"filter": 1, "project": 1, "join": 2, "union": 2, "distinct": 1, "group": 1}[word]
	p := api.Plan{Kind: 1 + slices.Index(forms, word)}
	for i, x := range parts {
		switch {
		case i >= len(parts)-kids:
			kid, more := slowPlan(x)
			p.Kids, faults = append(p.Kids, kid), append(faults, more...)
		case word == "table":
			p.Name = name(x)
		case word == "filter":
			p.Exprs = append(p.Exprs, expression(x))
		case word == "project":
			p.Cols = append(p.Cols, name(x.Kids[0]))
			p.Exprs = append(p.Exprs, expression(x.Kids[1]))
		case i == 0:
			for _, y := range x.Kids {
				p.Left = append(p.Left, name(y))
			}
		case word == "join":
			for _, y := range x.Kids {
				p.Right = append(p.Right, name(y))
			}
		default:
			a := api.Agg{Name: name(x.Kids[0]), Fun: x.Kids[1].S}
			known := []string{"count"}
			if len(x.Kids) == 3 {
				known = []string{"max", "min", "sum"}
			}
			note(!slices.Contains(known, a.Fun), api.ErrForm, x.Kids[1].At)
			if len(x.Kids) == 3 {
				a.Col = name(x.Kids[2])
			}
			p.Aggs = append(p.Aggs, a)
		}
	}
	return p, faults
}

// written returns p as it is to be printed, put together as a text.
func written(p api.Plan) string {
	l := []string{append([]string{""}, forms...)[p.Kind]}
	if p.Kind == api.Table {
		l = append(l, p.Name)
	}
	for i, e := range p.Exprs {
		if p.Kind == api.Project {
			l = append(l, "("+p.Cols[i]+" "+writtenExpr(e)+")")
		} else {
			l = append(l, writtenExpr(e))
		}
	}
	if p.Kind == api.Join || p.Kind == api.Group {
		l = append(l, "("+strings.Join(p.Left, " ")+")")
	}
	if p.Kind == api.Join {
		l = append(l, "("+strings.Join(p.Right, " ")+")")
	}
	for _, a := range p.Aggs {
		l = append(l, "("+strings.TrimSuffix(a.Name+" "+a.Fun+" "+a.Col, " ")+")")
	}
	for _, kid := range p.Kids {
		l = append(l, written(kid))
	}
	return "(" + strings.Join(l, " ") + ")"
}

func writtenExpr(e api.Expr) string {
	switch e.Kind {
	case api.Column:
		return e.S
	case api.Number:
		return value.Show(value.Num(e.N))
	case api.String:
		return value.Show(value.Str(e.S))
	}
	l := []string{e.S}
	for _, kid := range e.Kids {
		l = append(l, writtenExpr(kid))
	}
	return "(" + strings.Join(l, " ") + ")"
}

// canBeRead reports whether p is right in all its parts and not too long and not too deep.
func canBeRead(p api.Plan) bool {
	if !isRight(p) {
		return false
	}
	s := written(p)
	deep, deepest := 0, 0
	for _, c := range texts.ReplaceAllString(s, "") {
		switch c {
		case '(':
			deep++
		case ')':
			deep--
		}
		deepest = max(deepest, deep)
	}
	return len(s) <= api.MaxPlan && deepest <= api.MaxDeep
}

// texts are those of expressions, which may have brackets in them.
var texts = regexp.MustCompile(`"[^"]*"`)

func isRight(p api.Plan) bool {
	if p.Kind < api.Table || p.Kind > api.Group {
		return false
	}
	counts := []int{len(p.Exprs), len(p.Cols), len(p.Left), len(p.Right), len(p.Aggs), len(p.Kids)}
	// Lists of names and functions have as many elements as they have, where the Kind uses them.
	some, left, right, aggs := max(1, counts[0]), counts[2], counts[3], counts[4]
	want := [][]int{{0, 0, 0, 0, 0, 0}, {1, 0, 0, 0, 0, 1}, {some, some, 0, 0, 0, 1}, {0, 0, left, right, 0, 2}, {0, 0, 0, 0, 0, 2}, {0, 0, 0, 0, 0, 1}, {0, 0, left, 0, aggs, 1}}[p.Kind-1]
	if !slices.Equal(counts, want) || row.Name(p.Name) != (p.Kind == api.Table) || p.Kind != api.Table && p.Name != "" {
		return false
	}
	names := slices.Concat(p.Cols, p.Left, p.Right)
	for _, a := range p.Aggs {
		names = append(names, a.Name)
		if a.Fun != "count" {
			names = append(names, a.Col)
		}
		if !slices.Contains([]string{"count", "max", "min", "sum"}, a.Fun) || a.Fun == "count" && a.Col != "" {
			return false
		}
	}
	for _, s := range names {
		if !row.Name(s) {
			return false
		}
	}
	for _, e := range p.Exprs {
		if t := expr.Tree(e); t.Kind == sexp.Open && len(t.Kids) == 0 || hasLongText(e) {
			return false
		}
	}
	for _, kid := range p.Kids {
		if !isRight(kid) {
			return false
		}
	}
	return true
}

func hasLongText(e api.Expr) bool {
	return e.Kind == api.String && len(e.S) > api.MaxText || slices.ContainsFunc(e.Kids, hasLongText)
}

// slowTables and slowSize walk by the chapter's words.
func slowTables(p api.Plan) []string {
	var all []string
	if p.Kind == api.Table {
		all = append(all, p.Name)
	}
	for _, kid := range p.Kids {
		all = append(all, slowTables(kid)...)
	}
	slices.Sort(all)
	return slices.Compact(all)
}

func slowSize(p api.Plan) int {
	n := 1
	for _, kid := range p.Kids {
		n += slowSize(kid)
	}
	return n
}

func someName(x *rand.Rand) string { return list("a", "b", "cc", "t", "u", longName)[x.Intn(6)] }

func someNames(x *rand.Rand) []string {
	var all []string
	for range x.Intn(4) {
		all = append(all, someName(x))
	}
	return all
}

func someExpr(x *rand.Rand, deep int) api.Expr {
	switch n := x.Intn(8); {
	case n < 2 || deep == 0:
		return column(someName(x))
	case n < 4:
		return number(int64(x.Uint64()) >> x.Intn(64))
	case n < 5:
		return quoted(list("", "x", "a b", ")", "((", "\x00\xff\"", "\\")[x.Intn(7)])
	case n < 6:
		return apply(list("neg", "not", "len")[x.Intn(3)], someExpr(x, deep-1))
	case n < 7:
		return apply(list("add", "sub", "mul", "eq", "lt", "and", "or", "cat")[x.Intn(8)], someExpr(x, deep-1), someExpr(x, deep-1))
	}
	return apply("if", someExpr(x, deep-1), someExpr(x, deep-1), someExpr(x, deep-1))
}

// some returns a plan that is right in all its parts.
func some(x *rand.Rand, deep int) api.Plan {
	if deep == 0 || x.Intn(6) == 0 {
		return table(someName(x))
	}
	p := some(x, deep-1)
	switch x.Intn(6) {
	case 0:
		return filter(someExpr(x, 2), p)
	case 1:
		var cols []string
		var exprs []api.Expr
		for range 1 + x.Intn(3) {
			cols, exprs = append(cols, someName(x)), append(exprs, someExpr(x, 2))
		}
		return project(cols, exprs, p)
	case 2:
		return join(someNames(x), someNames(x), p, some(x, deep-1))
	case 3:
		return union(p, some(x, deep-1))
	case 4:
		return distinct(p)
	}
	var aggs []api.Agg
	for range x.Intn(4) {
		a := agg(someName(x), list("sum", "min", "max")[x.Intn(3)], someName(x))
		if x.Intn(3) == 0 {
			a = agg(someName(x), "count", "")
		}
		aggs = append(aggs, a)
	}
	return group(someNames(x), aggs, p)
}

// agrees checks Read of a text against what the chapter's words make of it.
func agrees(t *testing.T, s string) api.Errno {
	t.Helper()
	want, w, a := slowRead(s)
	got, why, at := plan.Read(s)
	if why != w || at != a || !same(got, want) {
		t.Fatalf("Read of %q: %s, error %d at %d, not %s, error %d at %d", s, tell(got), why, at, tell(want), w, a)
	}
	return why
}

func TestP93ReadOfPrint(t *testing.T) {
	x := rand.New(rand.NewSource(93))
	read := 0
	refused := map[api.Errno]int{}
	for i := range 8000 {
		p := some(x, i%14)
		s := plan.Print(p)
		if !canBeRead(p) {
			if s != "" {
				t.Fatalf("Print of %s: %q", tell(p), s)
			}
			_, why, _ := plan.Read(written(p))
			refused[why]++
			continue
		}
		if s != written(p) {
			t.Fatalf("Print of %s: %q", tell(p), s)
		}
		again, why, at := plan.Read(s)
		if why != api.OK || at != 0 || !same(again, p) {
			t.Fatalf("Read of %q: %s, error %d at %d", s, tell(again), why, at)
		}
		read++
	}
	if read < 3000 || refused[api.ErrLong] < 1000 || refused[api.ErrDeep] < 50 {
		t.Error(read, refused)
	}
}

// tokens takes a text apart.
var tokens = regexp.MustCompile(`"[^"]*"|[a-z]+|-?[0-9]+|[()]`)

// Of the text of a plan, some tokens are left out, doubled, or changed for others.
func TestP91RandomTexts(t *testing.T) {
	x := rand.New(rand.NewSource(91))
	answers := map[api.Errno]int{}
	other := slices.Concat(words, []string{"(", ")", "(", ")", "()", "a", "b", "t", "5", `"x"`, "(a)", "(n count)", "(n sum a)", "(a 1)", "(table t)", longName, longName + "q"})
	for range 60000 {
		l := tokens.FindAllString(written(some(x, x.Intn(5))), -1)
		for range 1 + x.Intn(3) {
			i := x.Intn(len(l))
			switch x.Intn(6) {
			case 0:
				l = slices.Delete(l, i, i+1)
			case 1:
				l = slices.Insert(l, i, l[i])
			case 2:
				l = slices.Insert(l, i, other[x.Intn(len(other))])
			default:
				if l[i] != "(" && l[i] != ")" {
					l[i] = other[x.Intn(len(other))]
				}
			}
			if len(l) == 0 {
				break
			}
		}
		answers[agrees(t, strings.Join(l, " "))]++
	}
	for _, why := range []api.Errno{api.OK, api.ErrForm, api.ErrName, api.ErrCount, api.ErrEnd, api.ErrTail} {
		if answers[why] < 1000 {
			t.Errorf("error %d only %d times", why, answers[why])
		}
	}
}

// Of a plan, a tree is changed for another one of the plan, or of another plan, so that brackets are right.
func TestP91RandomTrees(t *testing.T) {
	x := rand.New(rand.NewSource(910))
	answers := map[api.Errno]int{}
	for range 30000 {
		a, b := someTree(x), someTree(x)
		for range 1 + x.Intn(2) {
			*inner(&a, x) = copied(*inner(&b, x))
		}
		answers[agrees(t, sexp.Print(a))]++
	}
	for _, why := range []api.Errno{api.OK, api.ErrForm, api.ErrName} {
		if answers[why] < 1000 {
			t.Errorf("error %d only %d times", why, answers[why])
		}
	}
}

// copied returns a copy of t that shares nothing with it.
func copied(t sexp.Tree) sexp.Tree {
	t.Kids = slices.Clone(t.Kids)
	for i := range t.Kids {
		t.Kids[i] = copied(t.Kids[i])
	}
	return t
}

func someTree(x *rand.Rand) sexp.Tree {
	t, why, _ := sexp.Read(written(some(x, 1+x.Intn(4))))
	if why != api.OK {
		return someTree(x)
	}
	return t
}

// inner returns some tree within t. Of what the tree has, a Kid may be lost or doubled.
func inner(t *sexp.Tree, x *rand.Rand) *sexp.Tree {
	for len(t.Kids) > 0 && x.Intn(4) > 0 {
		switch i := x.Intn(len(t.Kids)); x.Intn(30) {
		case 0:
			t.Kids = slices.Delete(slices.Clone(t.Kids), i, i+1)
		case 1:
			t.Kids = slices.Insert(slices.Clone(t.Kids), i, t.Kids[i])
		default:
			t = &t.Kids[i]
		}
	}
	return t
}

// All texts of a few tokens.
func TestP91EveryShortText(t *testing.T) {
	few := []string{"(", ")", "table", "distinct", "t", "5", "group", "()", "(table t)", "(a count)"}
	answers := map[api.Errno]int{}
	var each func(s string, left int)
	each = func(s string, left int) {
		answers[agrees(t, s)]++
		if left > 0 {
			for _, token := range few {
				each(s+token+" ", left-1)
			}
		}
	}
	each("", 4)
	for _, a := range few {
		for _, b := range few {
			for _, c := range few {
				for _, word := range forms {
					answers[agrees(t, "("+word+" "+a+" "+b+" "+c+")")]++
					answers[agrees(t, "("+word+" (a) "+a+" "+b+" "+c+" (table t))")]++
				}
			}
		}
	}
	if answers[api.OK] < 5 || answers[api.ErrForm] < 5000 || answers[api.ErrName] < 50 {
		t.Error(answers)
	}
}

// One or two things of a plan are turned into others, right or wrong.
func TestP92RandomPlansWithOtherThings(t *testing.T) {
	x := rand.New(rand.NewSource(92))
	right, wrong := 0, 0
	for range 40000 {
		p := some(x, x.Intn(5))
		for range 1 + x.Intn(2) {
			turn(&p, x)
		}
		want := ""
		if canBeRead(p) {
			want = written(p)
			right++
		} else {
			wrong++
		}
		if got := plan.Print(p); got != want {
			t.Fatalf("Print of %s: %q, not %q", tell(p), got, want)
		}
		if got := plan.Tables(p); !slices.Equal(got, slowTables(p)) {
			t.Fatalf("Tables of %s: %q", tell(p), got)
		}
		if got := plan.Size(p); got != slowSize(p) {
			t.Fatalf("Size of %s: %d", tell(p), got)
		}
	}
	if right < 5000 || wrong < 5000 {
		t.Error(right, wrong)
	}
}

// turn changes something of p, or of a plan within it.
func turn(p *api.Plan, x *rand.Rand) {
	for len(p.Kids) > 0 && x.Intn(3) > 0 {
		p = &p.Kids[x.Intn(len(p.Kids))]
	}
	lists := []*[]string{&p.Cols, &p.Left, &p.Right}
	word := list("a", "zz", "", "sum", "count", "min", "A", "table", "t t", longName+"q")[x.Intn(10)]
	switch x.Intn(12) {
	case 0:
		p.Kind = x.Intn(9)
	case 1:
		p.Name = word
	case 2:
		l := lists[x.Intn(3)]
		*l = append(*l, word)
	case 3:
		if l := lists[x.Intn(3)]; len(*l) > 0 {
			*l = (*l)[1:]
		}
	case 4:
		p.Exprs = append(p.Exprs, someExpr(x, 2))
	case 5:
		if len(p.Exprs) > 0 {
			p.Exprs = p.Exprs[1:]
		}
	case 6:
		if len(p.Exprs) > 0 {
			turnExpr(&p.Exprs[x.Intn(len(p.Exprs))], x)
		}
	case 7:
		p.Aggs = append(p.Aggs, agg(word, list("sum", "count", "max")[x.Intn(3)], word))
	case 8:
		if len(p.Aggs) > 0 {
			a := &p.Aggs[x.Intn(len(p.Aggs))]
			*list(&a.Name, &a.Fun, &a.Col)[x.Intn(3)] = word
		}
	case 9:
		p.Kids = append(p.Kids, some(x, 1))
	case 10:
		if len(p.Kids) > 0 {
			p.Kids = p.Kids[1:]
		}
	default:
		*p = some(x, 2)
	}
}

func turnExpr(e *api.Expr, x *rand.Rand) {
	for len(e.Kids) > 0 && x.Intn(3) > 0 {
		e = &e.Kids[x.Intn(len(e.Kids))]
	}
	switch x.Intn(5) {
	case 0:
		e.Kind = x.Intn(6)
	case 1:
		e.S = list("a", "zz", "", "neg", "A", strings.Repeat("y", api.MaxText), strings.Repeat("y", api.MaxText+1))[x.Intn(7)]
	case 2:
		e.N++
	case 3:
		e.Kids = append(e.Kids, someExpr(x, 1))
	default:
		*e = someExpr(x, 2)
	}
}
