package fold_test

import (
	"math"
	"slices"
	"testing"

	"confluence/api"
	"confluence/fold"
	"confluence/value"
	"confluence/zset"
)

// rowsOf are three rows in order of which the first two share the value at position 1, with some Nets.
func rowsOf(a, b, c int64) api.Set {
	return api.Set{it(a, 1, 5), it(b, 2, 5), it(c, 3, 6)}
}

// wrongSets are sets of rows of at least two values that are not valid, each by one fault.
func wrongSets() []api.Set {
	all := []api.Set{
		{it(1, 2, 5), it(1, 1, 5)},
		{it(1, 1, 5), it(1, 1, 5)},
		{it(1, 1, 5), it(-1, 1, 5)},
		{it(1, 1, 5, 0), it(1, 1, 5)},
		{it(1, "a", 5), it(1, 1, 5)},
		{it(1, 1, 5), it(1, 2, 5), it(1, 3, 5), it(1, 3, 5)},
	}
	for _, r := range []api.Row{nil, {}, of(1, 2, 3, 4, 5, 6, 7), {value.Num(2), {}}, {{}, value.Num(2)}, {value.Num(2), {Kind: 3}}, {value.Num(2), {Kind: api.Int, N: 5, S: "x"}}, {value.Num(2), {Kind: api.Text, N: 5}}, of(2, longest+"z")} {
		all = append(all, api.Set{{Row: r, T: 1}}, api.Set{it(1, 1, 5), {Row: r, T: 1}, it(1, 3, 5)})
	}
	for _, c := range []complex128{0, 1 + 1i, 2 + 1i, 1 + 2i, -1, -1i, 0.5, 0.5i, far + 1, (far + 1) * 1i, complex(math.NaN(), 0), complex(0, math.Inf(1))} {
		all = append(all, api.Set{{Row: of(2, 5), T: c}}, api.Set{it(1, 1, 5), {Row: of(2, 5), T: c}, it(1, 3, 5)})
	}
	return all
}

func TestP132ChangeByWrongSets(t *testing.T) {
	for _, x := range []shape{{[]int{0}, nil}, {[]int{1, 0}, funs("count")}, {nil, funs("count")}, {nil, funs("min1")}, {[]int{1}, funs("max0 sum0")}} {
		for _, s := range wrongSets() {
			refuses(t, x.fold(t), s, api.ErrArg)
			f := x.fold(t)
			f.Change(rowsOf(1, 2, 3))
			holds(t, f, rowsOf(1, 2, 3)...)
			refuses(t, f, s, api.ErrArg)
		}
	}
}

func TestP132ChangeByRowsWithoutAValue(t *testing.T) {
	long := it(1, 1, 2, 3, 4, 5, 6)
	for _, c := range []struct {
		key   []int
		names string
		least int // values that a row must have
	}{
		{[]int{1}, "", 2}, {[]int{5}, "count", 6}, {[]int{2, 0}, "", 3}, {[]int{0, 3}, "sum1", 4}, {[]int{0, 4, 1}, "count", 5}, {[]int{5, 4, 3, 2, 1, 0}, "", 6},
		{nil, "sum1", 2}, {nil, "min1", 2}, {nil, "max1", 2}, {nil, "sum5", 6}, {nil, "min5", 6}, {nil, "max5", 6}, {nil, "max0 sum4 min2", 5}, {[]int{0}, "count max3 count", 4}, {[]int{0}, "count count", 1}, {nil, "count", 1},
	} {
		for n := 1; n <= api.MaxCols; n++ {
			short := api.Item{Row: long.Row[:n], T: 1}
			for _, s := range [][]api.Item{{short}, {it(1, 0, 2, 3, 4, 5, 6), short}, {short, it(1, 2, 2, 3, 4, 5, 6)}, {it(1, 0, 2, 3, 4, 5, 6), short, it(1, 2, 2, 3, 4, 5, 6)}} {
				f := by(t, c.key, c.names, it(4, 1, 1, 1, 1, 1, 1))
				if n < c.least {
					refuses(t, f, s, api.ErrArg)
					refuses(t, f, zset.Flip(s), api.ErrArg)
					continue
				}
				if _, why := f.Change(s); why != api.OK {
					t.Errorf("P13.2: by %v, %s, Change(%s): %d", c.key, c.names, tell(s), why)
				}
			}
		}
	}
}

// What stands at the Col of a count, and whether anything does, changes nothing.
func TestP132ChangeByRowsWithoutAValueToCount(t *testing.T) {
	for _, at := range append([]int{0, 1, 2, 5}, noPositions...) {
		f := shape{[]int{0}, []fold.Fun{{Name: "count", Col: at}}}.fold(t)
		turns(t, f, set(it(1, 1), it(2, 1, "x")), it(1, 1, 3))
		turns(t, f, set(it(-1, 1, "x"), it(1, 2)), it(-1, 1, 3), it(1, 1, 2), it(1, 2, 1))
	}
}

func TestP132ChangeByTexts(t *testing.T) {
	for at := range api.MaxCols {
		r := of(1, 2, 3, 4, 5, 6)
		r[at] = value.Str("x")
		s := api.Set{{Row: r, T: 1}}
		both := set(s[0], it(1, 0, 2, 3, 4, 5, 6), it(1, 1, 2, 3, 4, 5), it(1, 9, 2, 3, 4, 5, 6))
		for _, name := range []string{"sum", "min", "max", "count"} {
			for _, x := range []shape{{nil, []fold.Fun{{Name: name, Col: at}}}, {[]int{5 - at}, []fold.Fun{{Name: "count"}, {Name: name, Col: at}, {Name: "max", Col: 0}}}} {
				f := x.fold(t)
				f.Change(set(it(1, 1, 1, 1, 1, 1, 1)))
				if name == "sum" {
					refuses(t, f, s, api.ErrArg)
					refuses(t, f, zset.Flip(s), api.ErrArg)
					refuses(t, f, set(s[0], it(1, 0, 2, 3, 4, 5, 6), it(1, 9, 2, 3, 4, 5, 6)), api.ErrArg)
					continue
				}
				if _, why := f.Change(s); why != api.OK {
					t.Errorf("P13.2: %v of a text: %d", x.funs, why)
				}
			}
		}
		f := by(t, []int{at}, "", it(1, 1, 1, 1, 1, 1, 1))
		if _, why := f.Change(s); why != api.OK {
			t.Errorf("P13.2: a text as key: %d", why)
		}
		// a sum beside: no text stands at its Col
		f = shape{[]int{at}, []fold.Fun{{Name: "sum", Col: (at + 1) % 5}}}.fold(t)
		if _, why := f.Change(both); (why != api.OK) != (at == 5) {
			t.Errorf("P13.2: a sum beside a text at %d: %d", at, why)
		}
	}
}

func TestP132ChangeThatRemovesTooMuch(t *testing.T) {
	for _, x := range []shape{{[]int{0}, funs("count")}, {[]int{1}, nil}, {nil, funs("sum0")}} {
		f := x.fold(t)
		refuses(t, f, set(it(-1, 1, 5)), api.ErrRange)
		refuses(t, f, rowsOf(1, -1, 1), api.ErrRange)
		refuses(t, f, set(it(-far, 1, 5)), api.ErrRange)
		f.Change(rowsOf(1, 2, 3))
		for _, s := range []api.Set{
			rowsOf(-2, 1, 1), rowsOf(1, -3, 1), rowsOf(1, 1, -4), rowsOf(-far, 1, 1), rowsOf(1, 1, -far),
			set(it(-1, 1, 4)), set(it(-1, 1, 5, 0)), set(it(-1, 9, 9)), set(it(1, 1, 5), it(-1, 2, 6)), set(it(-2, 1, 5), it(9, 2, 5)),
		} {
			refuses(t, f, s, api.ErrRange)
		}
		holds(t, f, rowsOf(1, 2, 3)...)
		// to none, and not below it
		f.Change(rowsOf(-1, -2, -3))
		holds(t, f)
		has(t, f)
		refuses(t, f, set(it(-1, 3, 6)), api.ErrRange)
	}
}

func TestP132ChangeBeyondTheGreatestNets(t *testing.T) {
	for _, x := range []shape{{[]int{0}, funs("count")}, {nil, funs("min1")}, {[]int{1, 0}, nil}} {
		f := x.fold(t)
		f.Change(rowsOf(1, 2, 3))
		for _, s := range []api.Set{rowsOf(far, 1, 1), rowsOf(1, far, 1), rowsOf(1, 1, far), rowsOf(far, far, far), rowsOf(far-1, 1, 1), set(it(far, 9, 9)), set(it(1, 0, 0), it(far, 1, 5), it(-far, 2, 5)), set(it(far, 7, 7), it(far, 8, 8)), set(it(far, 7, 7), it(-far, 8, 8))} {
			refuses(t, f, s, api.ErrRange)
		}
	}
}

func TestP132ChangeBeyondMaxOut(t *testing.T) {
	const most = api.MaxOut
	for _, x := range []shape{{[]int{0}, funs("count")}, {nil, funs("count")}, {[]int{1}, funs("sum0")}, {[]int{1, 0}, nil}} {
		// in one step: one row, many rows, and both
		for _, s := range []api.Set{set(it(most+1, 1, 5)), many(most+1, 5), set(append(many(most, 5), it(1, 0, 6))...), set(append(many(2, 5), it(most-1, 0, 6))...), rowsOf(most, 1, 1)[:2], rowsOf(1, most-1, 1), many(2000, 5), rowsOf(1<<40, 1, 1)} {
			refuses(t, x.fold(t), s, api.ErrRange)
		}
		for _, s := range []api.Set{set(it(most, 1, 5)), many(most, 5), rowsOf(1, most-2, 1), rowsOf(most-2, 1, 1)} {
			f := x.fold(t)
			if _, why := f.Change(s); why != api.OK {
				t.Errorf("P13.2: Change of %d rows: %d", most, why)
			}
			holds(t, f, s...)
			// one more, of the same group or another
			refuses(t, f, set(it(1, 1, 5)), api.ErrRange)
			refuses(t, f, set(it(1, 0, 7)), api.ErrRange)
			refuses(t, f, set(it(1, 2000, 5)), api.ErrRange)
			// as many as go may come
			if _, why := f.Change(set(api.Item{Row: s[0].Row, T: 1i}, it(1, 2000, 5))); why != api.OK {
				t.Errorf("P13.2: one row for another, at %d rows: %d", most, why)
			}
			refuses(t, f, set(it(1, 2001, 5)), api.ErrRange)
			refuses(t, f, set(it(-1, 2000, 5), it(2, 2001, 5)), api.ErrRange)
			if _, why := f.Change(set(it(-1, 2000, 5))); why != api.OK {
				t.Errorf("P13.2: a row goes at %d rows: %d", most, why)
			}
			if _, why := f.Change(set(it(1, 2001, 5))); why != api.OK {
				t.Errorf("P13.2: Change to %d rows: %d", most, why)
			}
		}
	}
	// many groups, each counted as often as its rows are contained
	f := by(t, []int{0}, "count", many(256, 5)...)
	turns(t, f, set(it(256, 1, 5)), it(-1, 1, 1), it(1, 1, 257))
	refuses(t, f, set(it(1, 1, 5)), api.ErrRange)
	turns(t, f, set(it(-257, 1, 5)), it(-1, 1, 257))
	turns(t, f, set(it(1, 1, 5), it(256, 1, 6)), it(1, 1, 257))
}

func TestP132SumsAtTheirEnds(t *testing.T) {
	top, least := int64(math.MaxInt64), int64(math.MinInt64)
	for _, c := range []struct {
		rows []api.Item // of a number and one value more
		sum  int64
		want api.Errno
	}{
		{[]api.Item{it(1, top, 0)}, top, api.OK},
		{[]api.Item{it(1, least, 0)}, least, api.OK},
		{[]api.Item{it(1, top-1, 0), it(1, 1, 0)}, top, api.OK},
		{[]api.Item{it(1, 1, 0), it(1, top, 0)}, 0, api.ErrOver},
		{[]api.Item{it(1, top, 0), it(1, top, 1)}, 0, api.ErrOver},
		{[]api.Item{it(2, 1<<62, 0)}, 0, api.ErrOver},
		{[]api.Item{it(1, 1<<62, 0), it(1, 1<<62-1, 0)}, top, api.OK},
		{[]api.Item{it(2, -1<<62, 0)}, least, api.OK},
		{[]api.Item{it(2, -1<<62, 0), it(1, -1, 0)}, 0, api.ErrOver},
		{[]api.Item{it(1, least, 0), it(1, -1, 0)}, 0, api.ErrOver},
		{[]api.Item{it(1, least+1, 0), it(1, -1, 0)}, least, api.OK},
		{[]api.Item{it(1, least, 0), it(1, least, 1)}, 0, api.ErrOver},
		{[]api.Item{it(1, least, 0), it(1, top, 0)}, -1, api.OK},
		// partial sums alone are beyond them, in any order
		{[]api.Item{it(2, top, 0), it(2, least, 0), it(1, 2, 0)}, 0, api.OK},
		{[]api.Item{it(256, top, 0), it(255, least, 0), it(1, least+256, 0)}, 0, api.OK},
		{[]api.Item{it(1, 1<<62, 0), it(1, 1<<62, 1), it(1, -1<<62, 0)}, 1 << 62, api.OK},
		{[]api.Item{it(2, 1<<62, 0), it(1, -1, 0)}, top, api.OK},
		{[]api.Item{it(2, least, 0), it(1, top, 0), it(1, 1, 0)}, least, api.OK},
		{[]api.Item{it(2, least, 0), it(1, top, 0)}, 0, api.ErrOver},
		{[]api.Item{it(512, 1<<54, 0)}, 0, api.ErrOver},
		{[]api.Item{it(511, 1<<54, 0), it(1, 1<<54-1, 0)}, top, api.OK},
		{[]api.Item{it(512, -1<<54, 0)}, least, api.OK},
		{[]api.Item{it(511, -1<<54, 0), it(1, -1<<54-1, 0)}, 0, api.ErrOver},
		{[]api.Item{it(512, top, 0)}, 0, api.ErrOver},
		{[]api.Item{it(512, least, 0)}, 0, api.ErrOver},
		// whole turns of 2^64
		{[]api.Item{it(4, 1<<62, 0)}, 0, api.ErrOver},
		{[]api.Item{it(2, least, 0)}, 0, api.ErrOver},
		{[]api.Item{it(4, 1<<62, 0), it(1, 5, 0)}, 0, api.ErrOver},
		{[]api.Item{it(2, 1<<32, 0), it(3, math.MaxUint32, 0)}, 2<<32 + 3*math.MaxUint32, api.OK},
	} {
		s := set(c.rows...)
		f := by(t, nil, "sum0")
		if c.want != api.OK {
			refuses(t, f, s, c.want)
		} else {
			turns(t, f, s, it(1, c.sum))
			has(t, f, it(1, c.sum))
		}
		for i := range s { // all of one group, beside another if that may be
			s[i].Row = of(s[i].Row[0].N, 3, s[i].Row[1].N)
		}
		n, _ := zset.Total(s)
		f = by(t, []int{1}, "count sum0", it(min(1, api.MaxOut-n), 9, 7))
		if c.want != api.OK {
			refuses(t, f, s, c.want)
		} else {
			turns(t, f, s, it(1, 3, n, c.sum))
		}
	}
}

func TestP132SumsWhoseRowsComeAndGo(t *testing.T) {
	const top, least = math.MaxInt64, math.MinInt64
	f := by(t, []int{0}, "sum1", it(1, 1, top), it(1, 2, least))
	refuses(t, f, set(it(1, 1, 1)), api.ErrOver)
	refuses(t, f, set(it(1, 2, -1)), api.ErrOver)
	refuses(t, f, set(it(1, 0, 0), it(1, 2, -1), it(1, 3, 5)), api.ErrOver)
	refuses(t, f, set(it(1, 0, 0), it(1, 1, 1), it(1, 3, 5)), api.ErrOver)
	refuses(t, f, set(it(1, 1, 2), it(1, 1, -1)), api.ErrOver)
	turns(t, f, set(it(1, 1, 0)))
	turns(t, f, set(it(1, 1, -1), it(1, 1, 1)))
	// another greatest one for this one, and none that is there twice
	turns(t, f, set(it(-1, 1, top), it(1, 1, top, 0)))
	refuses(t, f, set(it(-1, 1, -1)), api.ErrOver)
	turns(t, f, set(it(-1, 1, top, 0), it(1, 1, top-1)), it(1, 1, top-1), it(-1, 1, top))
	turns(t, f, set(it(1, 1, 1, 0), it(1, 2, 1)), it(-1, 1, top-1), it(1, 1, top), it(-1, 2, least), it(1, 2, least+1))
	refuses(t, f, set(it(-1, 2, 1), it(1, 2, -1)), api.ErrOver)
	turns(t, f, set(it(-1, 2, 1), it(-1, 2, least), it(1, 2, -1), it(1, 2, least+1)), it(1, 2, least), it(-1, 2, least+1))
	// one that fails keeps all others out, be it the first, the last or in between
	f = by(t, []int{0}, "max2 sum1", it(1, 1, top, 0), it(1, 2, top, 0), it(1, 3, top, 0))
	for bad := 1; bad <= 3; bad++ {
		l := []api.Item{it(1, 0, 5, 5), it(1, 1, -1, 7), it(1, 2, -1, 7), it(1, 3, -1, 7), it(1, 4, 5, 5)}
		l[bad].Row[1] = value.Num(1)
		refuses(t, f, set(l...), api.ErrOver)
	}
	// the second of two sums
	f = by(t, []int{0}, "sum1 sum2", it(1, 1, 0, top))
	refuses(t, f, set(it(1, 1, 0, 1)), api.ErrOver)
	f = by(t, []int{0}, "sum2 sum1", it(1, 1, 0, top))
	refuses(t, f, set(it(1, 1, 0, 1)), api.ErrOver)
	turns(t, f, set(it(1, 1, 1, 0)), it(-1, 1, top, 0), it(1, 1, top, 1))
	// nothing is added where nothing is asked of it
	f = by(t, []int{0}, "count min1 max1", it(1, 1, top))
	turns(t, f, set(it(511, 1, top)), it(-1, 1, 1, top, top), it(1, 1, 512, top, top))
}

func TestP132ErrorsInOrder(t *testing.T) {
	const top = math.MaxInt64
	f := by(t, []int{0}, "sum1", it(1, 1, top), it(1, 2, 5))
	// wrong sets, short rows and texts, though rows go that are not there, too many come, and sums are beyond their ends
	for _, bad := range []api.Item{it(1, 3), it(1, 3, "x"), it(-1, 3, "x"), {Row: of(3, 3), T: 0}, {Row: nil, T: 1}} {
		for _, other := range [][]api.Item{{it(-1, 2, 6)}, {it(-far, 2, 6)}, {it(513, 2, 6)}, {it(far, 2, 5)}, {it(1, 1, 1)}, {it(1, 1, 1), it(-1, 2, 6), it(far, 2, 7)}} {
			refuses(t, f, append(slices.Clone(other), bad), api.ErrArg)
			refuses(t, f, append(api.Set{bad}, other...), api.ErrArg)
		}
	}
	// too much, though a sum is beyond its ends
	for _, s := range []api.Set{
		set(it(1, 1, 1), it(-1, 2, 6)), set(it(1, 1, 1), it(-1, 0, 0)), set(it(1, 1, 1), it(513, 2, 6)), set(it(1, 1, 1), it(511, 0, 0)), set(it(513, 1, 1)), set(it(1, 1, 1), it(far, 2, 5)),
		set(it(far, 1, top)), set(it(512, 1, top)), set(it(1, 0, top), it(1, 0, 1), it(-2, 2, 5)), set(it(-1, 1, 1), it(2, 1, 2)),
	} {
		refuses(t, f, s, api.ErrRange)
	}
	refuses(t, f, set(it(1, 1, 1), it(509, 2, 6)), api.ErrOver)
	refuses(t, f, set(it(1, 1, 1), it(-1, 2, 5)), api.ErrOver)
	turns(t, f, set(it(510, 2, 0)))
}
