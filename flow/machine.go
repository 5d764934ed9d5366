package flow

import (
	"slices"
	"sort"

	"confluence/api"
	"confluence/expr"
	"confluence/fold"
	"confluence/index"
	"confluence/row"
	"confluence/tally"
	"confluence/zset"
)

// machine is what a part of a plan does. Of the rows that it was given so far, it keeps what it needs to go on.
type machine interface {
	// change takes how the rows that the part is given have changed, all of it or nothing, and returns how those that it gives have.
	// It fails as eval does for all rows: those that stay have not failed before, and of those that come, the first one that fails is the first of all.
	change(in []api.Set) (api.Set, api.Errno)
}

// newMachine returns the machine of p, whose Kids have these columns. It leans on check.Out: every column is there and has the right Kind.
func newMachine(p api.Plan, kids [][]api.Col) machine {
	switch p.Kind {
	case api.Table, api.Union:
		return &merge{}
	case api.Filter:
		return newFilter(p.Exprs[0], kids[0])
	case api.Project:
		return newProject(p.Exprs, kids[0])
	case api.Join:
		return newJoin(p, kids[0], kids[1])
	case api.Distinct:
		return newDistinct(len(kids[0]))
	default: // Group
		return newGroup(p, kids[0])
	}
}

// room counts the rows of a part that may have more of them than it is given. The other parts can't be full if their Kids aren't.
type room struct{ taken int64 }

// take counts a change and returns it, unless there would be too many rows.
func (x *room) take(s api.Set) (api.Set, api.Errno) {
	n, ok := zset.Total(s)
	if !ok || x.taken+n > api.MaxOut {
		return nil, api.ErrFull
	}
	x.taken += n
	return s, api.OK
}

// merge gives all rows that it is given: those of a table, or of both Kids of a union.
type merge struct{ room }

func (m *merge) change(in []api.Set) (api.Set, api.Errno) {
	// Make never fails here: the rows are those of a table, or few, since no Kid has more than MaxOut.
	all, _ := zset.Make(slices.Concat(in...))
	return m.take(all)
}

// each turns every row by itself, into another one or into none.
type each struct {
	turn func(r api.Row) (api.Row, api.Errno)
}

func (m each) change(in []api.Set) (api.Set, api.Errno) {
	var items []api.Item
	for _, x := range in[0] {
		r, why := m.turn(x.Row)
		if why != api.OK {
			return nil, why
		}
		if len(r) > 0 {
			items = append(items, api.Item{Row: r, T: x.T})
		}
	}
	turned, _ := zset.Make(items)
	return turned, api.OK
}

func newFilter(e api.Expr, cols []api.Col) each {
	return each{func(r api.Row) (api.Row, api.Errno) {
		v, why := expr.Eval(e, cols, r)
		if v.N == 0 {
			return nil, why
		}
		return r, why
	}}
}

func newProject(l []api.Expr, cols []api.Col) each {
	return each{func(r api.Row) (api.Row, api.Errno) {
		var made api.Row
		for _, e := range l {
			v, why := expr.Eval(e, cols, r)
			if why != api.OK {
				return nil, why
			}
			made = append(made, v)
		}
		return made, api.OK
	}}
}

// join keeps the rows of both Kids by their keys, so that it looks only at those whose keys change.
type join struct {
	room
	left, right side
	rest        []int // the places of the second Kid's values that are not in its key
}

// side is one of the Kids of a join.
type side struct {
	key  []int
	rows *index.Index
}

func newJoin(p api.Plan, a, b []api.Col) *join {
	m := &join{left: newSide(places(a, p.Left)), right: newSide(places(b, p.Right))}
	for i := range b {
		if !slices.Contains(m.right.key, i) {
			m.rest = append(m.rest, i)
		}
	}
	return m
}

func newSide(key []int) side {
	// There are columns to join by, and no more than there may be: New never fails here.
	rows, _ := index.New(key)
	return side{key, rows}
}

// places returns where the columns with these names stand.
func places(cols []api.Col, names []string) []int {
	var at []int
	for _, name := range names {
		i, _ := row.Find(cols, name)
		at = append(at, i)
	}
	return at
}

// by returns s by the key of a side. Rows that fit the Kid's columns have one, so that nothing fails.
func (x side) by(s api.Set) *index.Index {
	rows := newSide(x.key).rows
	rows.Change(s)
	return rows
}

func (m *join) change(in []api.Set) (api.Set, api.Errno) {
	left, right := m.left.by(in[0]), m.right.by(in[1])
	var gone, come []api.Item
	for _, key := range keys(left, right) {
		a, b := m.left.rows.Find(key), m.right.rows.Find(key)
		gone = append(gone, m.pairs(a, b)...)
		// Here and below, Add and Make never fail: no side and no result has more than MaxOut rows, now or before.
		a, _ = zset.Add(a, left.Find(key))
		b, _ = zset.Add(b, right.Find(key))
		// The product of two sides may be far greater than what is allowed: no need to make it all.
		if len(come)+len(a)*len(b) > api.MaxOut {
			return nil, api.ErrFull
		}
		come = append(come, m.pairs(a, b)...)
	}
	before, _ := zset.Make(gone)
	turned, _ := zset.Make(slices.Concat(zset.Flip(before), come))
	turned, why := m.take(turned)
	if why != api.OK {
		return nil, why
	}
	m.left.rows.Change(in[0])
	m.right.rows.Change(in[1])
	return turned, api.OK
}

// keys returns the keys that x or y has.
func keys(x, y *index.Index) []api.Row {
	all := append(x.Keys(), y.Keys()...)
	sort.Slice(all, func(i, k int) bool { return row.Less(all[i], all[k]) })
	return slices.CompactFunc(all, row.Same)
}

// pairs returns the rows that a join makes of rows of one key.
func (m *join) pairs(a, b api.Set) []api.Item {
	var items []api.Item
	for _, x := range a {
		for _, y := range b {
			r := slices.Clone(x.Row)
			for _, i := range m.rest {
				r = append(r, y.Row[i])
			}
			often, _ := tally.Times(x.T, y.T)
			items = append(items, api.Item{Row: r, T: often})
		}
	}
	return items
}

// group gives a row for each group of rows. Its fold takes no more rows than a part may give, which its Kid never exceeds.
type group struct{ *fold.Fold }

func (m group) change(in []api.Set) (api.Set, api.Errno) { return m.Change(in[0]) }

func newGroup(p api.Plan, cols []api.Col) group {
	var funs []fold.Fun
	for _, a := range p.Aggs {
		// A count has no column: its place doesn't matter.
		i, _ := row.Find(cols, a.Col)
		funs = append(funs, fold.Fun{Name: a.Fun, Col: i})
	}
	f, _ := fold.New(places(cols, p.Left), funs)
	return group{f}
}

// newDistinct returns the groups by all of n columns, which are the distinct rows.
func newDistinct(n int) group {
	var key []int
	for i := range n {
		key = append(key, i)
	}
	f, _ := fold.New(key, nil)
	return group{f}
}
