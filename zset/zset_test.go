package zset_test

import (
	"fmt"
	"math"
	"math/rand"
	"slices"
	"sort"
	"strings"
	"testing"

	"confluence/api"
	"confluence/row"
	"confluence/tally"
	"confluence/value"
	"confluence/wire"
	"confluence/zset"
)

const far = api.MaxPart

var longest = strings.Repeat("z", api.MaxText)

func num(n int64) api.Value { return value.Num(n) }

func str(s string) api.Value { return value.Str(s) }

// ints returns a row of Ints.
func ints(l ...int64) api.Row {
	var r api.Row
	for _, n := range l {
		r = append(r, num(n))
	}
	return r
}

// of returns an item of a row of one Int.
func of(n, added, removed int64) api.Item {
	return api.Item{Row: ints(n), T: tally.Of(added, removed)}
}

// net returns an item of a row of one Int, with the reduced tally of a Net.
func net(n, of int64) api.Item {
	return api.Item{Row: ints(n), T: tally.Of(max(of, 0), max(-of, 0))}
}

// nets returns a set of the rows [1], [2] and so on, with these Nets.
func nets(l ...int64) api.Set {
	var s api.Set
	for i, n := range l {
		s = append(s, net(int64(i+1), n))
	}
	return s
}

// rising returns the set of the rows [0] to [n-1], with Nets of either sign.
func rising(n int) api.Set {
	var s api.Set
	for i := range int64(n) {
		s = append(s, net(i, 1+i%3-2*(i%2)*(1+i%3)))
	}
	return s
}

// backwards returns the items of l in reverse.
func backwards(l []api.Item) []api.Item {
	l = slices.Clone(l)
	slices.Reverse(l)
	return l
}

// mixed returns the items of l in some order.
func mixed(x *rand.Rand, l []api.Item) []api.Item {
	l = slices.Clone(l)
	x.Shuffle(len(l), func(i, k int) { l[i], l[k] = l[k], l[i] })
	return l
}

// put returns l with x ahead of the item at a place.
func put(l []api.Item, at int, x api.Item) []api.Item {
	return slices.Concat(l[:at], []api.Item{x}, l[at:])
}

// orders returns l in each of its orders.
func orders(l []api.Item) [][]api.Item {
	if len(l) == 0 {
		return [][]api.Item{nil}
	}
	var all [][]api.Item
	for _, rest := range orders(l[1:]) {
		for at := range len(rest) + 1 {
			all = append(all, put(rest, at, l[0]))
		}
	}
	return all
}

// deep returns a copy of l that shares nothing with it.
func deep(l []api.Item) []api.Item {
	var c []api.Item
	for _, x := range l {
		c = append(c, api.Item{Row: slices.Clone(x.Row), T: x.T})
	}
	return c
}

// equal compares item by item, be they valid or not.
func equal(a, b []api.Item) bool {
	return slices.EqualFunc(a, b, func(x, y api.Item) bool { return x.T == y.T && slices.Equal(x.Row, y.Row) })
}

// tell returns l in bytes that can be printed.
func tell(l []api.Item) string {
	if len(l) > 12 {
		return fmt.Sprintf("%d items", len(l))
	}
	return fmt.Sprintf("%+q", fmt.Sprint(l))
}

// inOrder are valid rows of every length, each of which comes before all that follow.
var inOrder = []api.Row{
	ints(math.MinInt64),
	ints(-1),
	ints(1),
	ints(1, -5),
	ints(1, 2),
	ints(1, 2, 3),
	ints(1, 2, 3, 4, 5),
	ints(1, 2, 3, 4, 5, 6),
	{num(1), num(2), num(3), num(4), num(5), str("")},
	ints(1, 10),
	{num(1), str("a")},
	{num(1), str("a"), num(0)},
	{num(1), str("ab")},
	ints(2),
	ints(10),
	ints(math.MaxInt64),
	{str("")},
	{str(""), num(9)},
	{str("10")},
	{str("9")},
	{str("a"), str("b"), str("a"), str("b")},
	{str("aa")},
	{str("\xff")},
	{str("\xff\x00")},
}

// wrongRows are rows that are not valid.
func wrongRows() []api.Row {
	all := []api.Row{nil, {}, slices.Repeat(ints(2), api.MaxCols+1), slices.Repeat(ints(2), 256+1)}
	for _, bad := range []api.Value{{}, {N: 2}, {Kind: 3, N: 2}, {Kind: -1}, {Kind: 256 + api.Int, N: 2}, {Kind: api.Int, N: 2, S: "x"}, {Kind: api.Text, N: 2, S: "x"}, {Kind: api.Text, S: longest + "z"}} {
		all = append(all, api.Row{bad}, api.Row{num(2), bad}, api.Row{bad, num(2)}, append(ints(2, 2, 2, 2, 2), bad))
	}
	return all
}

// wrongTallies are numbers that are no tallies.
func wrongTallies() []complex128 {
	var all []complex128
	for _, x := range []float64{-1, 0.5, 1.5, far + 1, 2 * far, 1 << 53, 1 << 63, 1e300, -far, -0.5, math.NaN(), math.Inf(1), math.Inf(-1)} {
		all = append(all, complex(x, 0), complex(0, x), complex(x, 1), complex(1, x), complex(x, x))
	}
	return all
}

// keptByNone are tallies that no valid set has, though some of them are valid.
func keptByNone() []complex128 {
	return append(wrongTallies(), 0, tally.Of(1, 1), tally.Of(2, 1), tally.Of(1, 2), tally.Of(far, 1), tally.Of(1, far), tally.Of(far, far))
}

// wrongItems are items that Make refuses.
func wrongItems() []api.Item {
	var all []api.Item
	for _, r := range wrongRows() {
		all = append(all, api.Item{Row: r, T: tally.Of(1, 0)}, api.Item{Row: r})
	}
	for _, c := range wrongTallies() {
		all = append(all, api.Item{Row: ints(2), T: c})
	}
	return all
}

// validSets are sets that are valid: none, one and many rows, Nets of either sign and of the greatest size.
func validSets() []api.Set {
	all := []api.Set{nil, {}, nets(1), nets(-1), nets(far), nets(-far), nets(far, -far), nets(1, 2, 3), nets(1, -2, 3), nets(-1, 2, -3), rising(5), rising(6), rising(100)}
	var long api.Set
	for i, r := range inOrder {
		all = append(all, api.Set{{Row: r, T: tally.Of(0, int64(i+1))}})
		long = append(long, api.Item{Row: r, T: tally.Of(int64(i+1), 0)})
		all = append(all, slices.Clone(long))
	}
	x := rand.New(rand.NewSource(6))
	for range 30 {
		var s api.Set
		for _, r := range inOrder {
			if x.Intn(2) == 0 {
				s = append(s, api.Item{Row: r, T: net(0, []int64{1, -1, 7, -7, far, -far}[x.Intn(6)]).T})
			}
		}
		all = append(all, s)
	}
	return all
}

// wrongSets are sets with one fault each: a wrong row or tally at each place, rows that stand twice or don't rise.
func wrongSets() []api.Set {
	var all []api.Set
	for at := range 4 {
		for _, r := range wrongRows() {
			s := rising(4)
			s[at].Row = r
			all = append(all, s)
		}
		for _, c := range keptByNone() {
			s := rising(4)
			s[at].T = c
			all = append(all, s)
		}
		again := rising(4)[at]
		for _, c := range []complex128{again.T, tally.Flip(again.T), tally.Of(far, 0)} {
			all = append(all, put(rising(4), at, api.Item{Row: again.Row, T: c}), put(rising(4), at+1, api.Item{Row: again.Row, T: c}))
		}
	}
	for i, l := range orders(rising(4)) {
		if i > 0 {
			all = append(all, l)
		}
	}
	for _, x := range wrongItems() {
		all = append(all, api.Set{x})
	}
	for i, r := range inOrder[1:] {
		all = append(all, api.Set{{Row: r, T: 1}, {Row: inOrder[i], T: 1}}, api.Set{{Row: r, T: 1}, {Row: r, T: 1}})
	}
	return append(all, nets(1, 0), nets(0, 1), nets(0), backwards(rising(100)), slices.Concat(rising(50), rising(50)))
}

// makes checks what Make answers.
func makes(t *testing.T, l []api.Item, want api.Set, why api.Errno) {
	t.Helper()
	got, w := zset.Make(l)
	if w != why || !equal(got, want) {
		t.Errorf("Make(%s): %s, %d; not %s, %d", tell(l), tell(got), w, tell(want), why)
	}
}

func TestP61RightOfValidSets(t *testing.T) {
	for _, s := range validSets() {
		if !zset.Right(s) {
			t.Errorf("%s is valid", tell(s))
		}
	}
	for i, a := range inOrder {
		for k, b := range inOrder {
			if zset.Right(api.Set{{Row: a, T: 1}, {Row: b, T: 1}}) != (i < k) {
				t.Errorf("%v and %v: %v", a, b, i >= k)
			}
		}
	}
}

func TestP61RightOfWrongSets(t *testing.T) {
	for _, s := range wrongSets() {
		if zset.Right(s) {
			t.Errorf("%s is not valid", tell(s))
		}
	}
}

func TestP61MakeOfSetsIsWhatTheyAre(t *testing.T) {
	for _, s := range validSets() {
		makes(t, s, s, api.OK)
	}
}

func TestP61MakePutsInOrder(t *testing.T) {
	x := rand.New(rand.NewSource(61))
	for n := range 40 {
		want := rising(n)
		makes(t, want, want, api.OK)
		makes(t, backwards(want), want, api.OK)
		for range 20 {
			makes(t, mixed(x, want), want, api.OK)
		}
		for at := range n {
			makes(t, slices.Concat(want[at:], want[:at]), want, api.OK)
			makes(t, slices.Concat(backwards(want[at:]), want[:at]), want, api.OK)
			makes(t, slices.Concat(want[:at], backwards(want[at:])), want, api.OK)
		}
	}
	for _, l := range orders(rising(6)) {
		makes(t, l, rising(6), api.OK)
	}
}

func TestP61MakePutsRowsOfEachLengthInOrder(t *testing.T) {
	var want api.Set
	for i, r := range inOrder {
		want = append(want, api.Item{Row: r, T: tally.Of(int64(1+i), 0)})
	}
	x := rand.New(rand.NewSource(62))
	for range 50 {
		makes(t, mixed(x, want), want, api.OK)
	}
}

func TestP61MakeAddsTallies(t *testing.T) {
	for _, c := range []struct {
		l, want []api.Item
	}{
		{nil, nil},
		{[]api.Item{}, nil},
		{[]api.Item{of(1, 2, 0)}, nets(2)},
		{[]api.Item{of(1, 0, 2)}, nets(-2)},
		// tallies that aren't reduced, and ones of the Net 0
		{[]api.Item{of(1, 5, 3)}, nets(2)},
		{[]api.Item{of(1, 3, 5)}, nets(-2)},
		{[]api.Item{of(1, 5, 5)}, nil},
		{[]api.Item{of(1, 0, 0)}, nil},
		{[]api.Item{of(1, far, far)}, nil},
		{[]api.Item{of(1, far, 1)}, nets(far - 1)},
		{[]api.Item{of(1, 0, 0), of(2, 1, 0), of(3, 4, 4)}, []api.Item{of(2, 1, 0)}},
		// a row that stands several times
		{[]api.Item{of(1, 1, 0), of(1, 2, 0)}, nets(3)},
		{[]api.Item{of(1, 1, 0), of(1, 0, 3)}, nets(-2)},
		{[]api.Item{of(1, 1, 4), of(1, 7, 1), of(1, 0, 1)}, nets(2)},
		{[]api.Item{of(1, 1, 0), of(2, 1, 0), of(1, 1, 0), of(2, 0, 5), of(1, 1, 0)}, nets(3, -4)},
		{[]api.Item{of(2, 1, 0), of(1, 1, 0), of(2, 1, 0), of(1, 1, 0), of(2, 1, 0), of(1, 1, 0)}, nets(3, 3)},
		// a row that goes, and one that comes back
		{[]api.Item{of(1, 1, 0), of(1, 0, 1)}, nil},
		{[]api.Item{of(1, 0, 1), of(1, 1, 0)}, nil},
		{[]api.Item{of(1, 1, 0), of(1, 0, 1), of(1, 2, 0)}, nets(2)},
		{[]api.Item{of(1, 0, 1), of(1, 1, 0), of(1, 0, 2)}, nets(-2)},
		{[]api.Item{of(1, 1, 0), of(1, 0, 1), of(1, 2, 0), of(1, 0, 2)}, nil},
		{[]api.Item{of(1, 1, 0), of(2, 3, 0), of(1, 0, 1), of(3, 1, 0)}, []api.Item{of(2, 3, 0), of(3, 1, 0)}},
		{[]api.Item{of(2, 1, 0), of(1, 3, 0), of(2, 0, 1), of(3, 1, 0), of(2, 4, 0), of(1, 0, 3)}, []api.Item{of(2, 4, 0), of(3, 1, 0)}},
		// the greatest Nets
		{[]api.Item{of(1, far, 0)}, nets(far)},
		{[]api.Item{of(1, 0, far)}, nets(-far)},
		{[]api.Item{of(1, far-1, 0), of(1, 1, 0)}, nets(far)},
		{[]api.Item{of(1, 0, 1), of(1, 0, far-1)}, nets(-far)},
		{[]api.Item{of(1, far, 0), of(1, 0, far)}, nil},
		{[]api.Item{of(1, far, 0), of(1, 0, far), of(1, 0, far), of(1, far, 0), of(1, far, 0)}, nets(far)},
		{[]api.Item{of(1, far, 0), of(2, far, 0), of(1, far, far), of(2, 0, 1)}, nets(far, far-1)},
		{[]api.Item{of(1, far, 0), of(1, far, far), of(1, 0, 1), of(1, 1, 0)}, nets(far)},
	} {
		makes(t, c.l, c.want, api.OK)
	}
}

// Rows that only look alike are not added.
func TestP61MakeTellsRowsApart(t *testing.T) {
	l := []api.Item{{Row: api.Row{str("1")}, T: 1}, {Row: ints(1), T: 1}, {Row: ints(1, 1), T: 1}, {Row: api.Row{str("")}, T: 1}, {Row: ints(0), T: 1}}
	makes(t, l, api.Set{{Row: ints(0), T: 1}, {Row: ints(1), T: 1}, {Row: ints(1, 1), T: 1}, {Row: api.Row{str("")}, T: 1}, {Row: api.Row{str("1")}, T: 1}}, api.OK)
}

func TestP61MakeOfSumsThatAreTooGreat(t *testing.T) {
	for _, l := range [][]api.Item{
		{of(1, far, 0), of(1, 1, 0)},
		{of(1, 1, 0), of(1, far, 0)},
		{of(1, 0, far), of(1, 0, 1)},
		{of(1, 0, 1), of(1, 0, far)},
		{of(1, far, 0), of(1, far, 0)},
		{of(1, 0, far), of(1, 0, far)},
		{of(1, far, 0), of(1, 2, 1)},
		// one that would come back
		{of(1, far, 0), of(1, 1, 0), of(1, 0, 1)},
		{of(1, 1, 0), of(1, far, 0), of(1, 0, far)},
		{of(1, 0, far), of(1, 0, 1), of(1, 1, 0)},
		// in the middle of a row's tallies, and among other rows
		{of(1, far, 0), of(2, 1, 0), of(0, 1, 0), of(1, 1, 0), of(3, 1, 0), of(1, 0, 5)},
		{of(3, 1, 0), of(2, 1, 0), of(3, far, 0), of(1, 1, 0), of(3, 0, far)},
		{of(1, 1, 0), of(2, far, 0), of(3, 1, 0), of(2, 1, 0)},
		{of(1, far, 0), of(1, 0, far), of(1, far, 0), of(1, 1, 0), of(1, 0, 9)},
	} {
		makes(t, l, nil, api.ErrRange)
	}
}

// sums returns what Make should: rows in order and the sums of their Nets, added in the order of l.
func sums(l []api.Item) (api.Set, api.Errno) {
	var s api.Set
	for i, r := range inOrder {
		sum := int64(0)
		for _, x := range l {
			if !slices.Equal(x.Row, r) {
				continue
			}
			sum += int64(real(x.T)) - int64(imag(x.T))
			if sum > far || sum < -far {
				return nil, api.ErrRange
			}
		}
		if sum != 0 {
			s = append(s, api.Item{Row: inOrder[i], T: net(0, sum).T})
		}
	}
	return s, api.OK
}

// Whether a sum is too great on the way depends on the order of a row's tallies alone.
func TestP61MakeAddsInTheOrderOfTheItems(t *testing.T) {
	row := func(i int, c complex128) api.Item { return api.Item{Row: inOrder[i], T: c} }
	refused := 0
	for _, l := range orders([]api.Item{row(1, far), row(1, 1), row(1, 1i), row(2, 1), row(0, 1), row(2, far*1i)}) {
		want, why := sums(l)
		makes(t, l, want, why)
		if why != api.OK {
			refused++
		}
	}
	if refused != 240 {
		t.Errorf("%d orders were refused", refused)
	}
}

func TestP61MakeOfManyItemsOfFewRows(t *testing.T) {
	x := rand.New(rand.NewSource(63))
	seen := map[api.Errno]int{}
	for range 5000 {
		var l []api.Item
		rows := 1 + x.Intn(len(inOrder))
		for range x.Intn(30) {
			parts := []int64{0, 0, 0, 1, 2, 3, far / 2, far - 1, far}[:6+x.Intn(4)]
			l = append(l, api.Item{Row: inOrder[x.Intn(rows)], T: tally.Of(parts[x.Intn(len(parts))], parts[x.Intn(len(parts))])})
		}
		want, why := sums(l)
		makes(t, l, want, why)
		seen[why]++
	}
	if seen[api.OK] < 1000 || seen[api.ErrRange] < 1000 {
		t.Errorf("%v", seen)
	}
}

func TestP61MakeOfWrongItems(t *testing.T) {
	for _, bad := range wrongItems() {
		for at := range 5 {
			makes(t, put(rising(4), at, bad), nil, api.ErrArg)
			makes(t, put(backwards(rising(4)), at, bad), nil, api.ErrArg)
		}
		makes(t, []api.Item{bad}, nil, api.ErrArg)
		makes(t, []api.Item{bad, bad}, nil, api.ErrArg)
	}
}

func TestP61MakeTellsOfWrongItemsAheadOfSums(t *testing.T) {
	over := []api.Item{of(2, far, 0), of(2, 1, 0)}
	for _, bad := range wrongItems() {
		for at := range 3 {
			makes(t, put(over, at, bad), nil, api.ErrArg)
		}
	}
}

func TestP61MakeOfVeryManyItems(t *testing.T) {
	const n = 100000
	want := rising(n)
	x := rand.New(rand.NewSource(64))
	for _, l := range [][]api.Item{want, backwards(want), mixed(x, want), slices.Concat(want[n/2:], want[:n/2])} {
		makes(t, l, want, api.OK)
	}
	makes(t, slices.Concat(want, zset.Flip(want)), nil, api.OK)
	makes(t, slices.Repeat([]api.Item{of(1, 1, 0)}, n), nets(n), api.OK)
}

func TestP61MakeOfZerosWithASign(t *testing.T) {
	minus := math.Copysign(0, -1)
	got, why := zset.Make([]api.Item{{Row: ints(1), T: complex(minus, 3)}, {Row: ints(2), T: complex(minus, minus)}})
	if why != api.OK || fmt.Sprint(got) != fmt.Sprint(nets(-3)) {
		t.Errorf("%v, %d", got, why)
	}
	if !zset.Right(api.Set{{Row: ints(1), T: complex(minus, 3)}}) || zset.Right(api.Set{{Row: ints(1), T: complex(minus, minus)}}) {
		t.Error("a zero with a sign is no zero")
	}
}

func TestP61Add(t *testing.T) {
	for _, c := range []struct {
		a, b, want api.Set
		why        api.Errno
	}{
		{nil, nil, nil, api.OK},
		{nil, api.Set{}, nil, api.OK},
		{nets(1, 2), nil, nets(1, 2), api.OK},
		{nil, nets(1, 2), nets(1, 2), api.OK},
		{nets(1, 2), nets(3, -1, 5), nets(4, 1, 5), api.OK},
		{nets(1, 2, 3), nets(-1, -2, -3), nil, api.OK},
		{nets(1, 2, 3), nets(-1, -3, -3), api.Set{net(2, -1)}, api.OK},
		{api.Set{net(1, 1), net(3, 1)}, api.Set{net(2, 1), net(4, 1)}, nets(1, 1, 1, 1), api.OK},
		{api.Set{net(3, 1), net(4, 1)}, api.Set{net(1, 1), net(2, 1)}, nets(1, 1, 1, 1), api.OK},
		{nets(far), nets(-far), nil, api.OK},
		{nets(far, -far), nets(-1, 1), nets(far-1, 1-far), api.OK},
		{nets(far-1, 1-far), nets(1, -1), nets(far, -far), api.OK},
		{nets(1, far), nets(1, 1), nil, api.ErrRange},
		{nets(1, -far), nets(1, -1), nil, api.ErrRange},
		{nets(far), nets(far), nil, api.ErrRange},
		// lists that are no valid sets are added as Make adds them
		{backwards(nets(1, 2)), backwards(nets(3, 4, 5)), nets(4, 6, 5), api.OK},
		{api.Set{of(1, 5, 3), of(2, 4, 4)}, api.Set{of(2, 0, 0), of(1, 1, 0)}, nets(3), api.OK},
		{api.Set{of(1, 1, 0), of(1, 1, 0)}, api.Set{of(1, 1, 0), of(1, 1, 0)}, nets(4), api.OK},
		{api.Set{of(1, far, 0), of(1, 0, 1)}, nets(1), nets(far), api.OK},
		{api.Set{of(1, far, 0)}, api.Set{of(1, 0, 1), of(1, 1, 0)}, nets(far), api.OK},
		{api.Set{of(1, far, 0)}, api.Set{of(1, 1, 0), of(1, 0, 1)}, nil, api.ErrRange},
		{api.Set{of(1, 1, 0), of(1, 0, 1)}, nets(far), nets(far), api.OK},
	} {
		got, why := zset.Add(c.a, c.b)
		if why != c.why || !equal(got, c.want) {
			t.Errorf("Add(%s, %s): %s, %d; not %s, %d", tell(c.a), tell(c.b), tell(got), why, tell(c.want), c.why)
		}
	}
}

func TestP61AddIsMakeOfBoth(t *testing.T) {
	all := append(validSets(), wrongSets()[:60]...)
	all = append(all, backwards(rising(100)), nets(0), api.Set{of(1, far, 0), of(1, 1, 0)})
	for _, a := range all {
		for _, b := range all {
			want, why := zset.Make(slices.Concat(a, b))
			got, w := zset.Add(a, b)
			if w != why || !equal(got, want) {
				t.Fatalf("Add(%s, %s): %s, %d; not %s, %d", tell(a), tell(b), tell(got), w, tell(want), why)
			}
		}
	}
}

func TestP61AddOfWrongItems(t *testing.T) {
	over := []api.Item{of(2, far, 0), of(2, 1, 0)}
	for _, bad := range wrongItems() {
		for _, c := range [][2]api.Set{{{bad}, nil}, {nil, {bad}}, {rising(3), {bad}}, {{bad}, rising(3)}, {over, {bad}}, {{bad}, over}, {over[:1], append(over[1:2:2], bad)}} {
			if got, why := zset.Add(c[0], c[1]); why != api.ErrArg || len(got) != 0 {
				t.Errorf("Add(%s, %s): %s, %d", tell(c[0]), tell(c[1]), tell(got), why)
			}
		}
	}
}

func TestP61Flip(t *testing.T) {
	for _, s := range validSets() {
		var want api.Set
		for _, x := range s {
			want = append(want, api.Item{Row: x.Row, T: complex(imag(x.T), real(x.T))})
		}
		got := zset.Flip(s)
		if !equal(got, want) || !zset.Right(got) || !equal(zset.Flip(got), s) {
			t.Errorf("Flip(%s): %s", tell(s), tell(got))
		}
	}
	for _, s := range wrongSets() {
		if got := zset.Flip(s); len(got) != 0 {
			t.Errorf("Flip(%s): %s", tell(s), tell(got))
		}
	}
}

func TestP61OfRowsThatAreThere(t *testing.T) {
	for _, s := range validSets() {
		for _, x := range s {
			if got := zset.Of(s, slices.Clone(x.Row)); got != x.T || got == 0 {
				t.Errorf("%v of %s: %v", x.Row, tell(s), got)
			}
		}
	}
}

func TestP61OfRowsThatAreNotThere(t *testing.T) {
	for _, s := range validSets() {
		others := append(wrongRows(), ints(-2), ints(1000), ints(1, 1), ints(0, 0), api.Row{str("1")}, api.Row{str("0")}, ints(1, 2, 3, 4))
		for i, x := range s {
			others = append(others, x.Row[:len(x.Row)-1], append(slices.Clone(x.Row), num(-77)))
			if got := zset.Of(slices.Delete(slices.Clone(s), i, i+1), x.Row); got != 0 {
				t.Errorf("%v of %s without it: %v", x.Row, tell(s), got)
			}
		}
		for _, r := range others {
			there := slices.ContainsFunc(s, func(x api.Item) bool { return slices.Equal(x.Row, r) })
			if got := zset.Of(s, r); (got != 0) != there {
				t.Errorf("%v of %s: %v", r, tell(s), got)
			}
		}
	}
}

func TestP61OfWrongSets(t *testing.T) {
	for _, s := range wrongSets() {
		for _, x := range append(slices.Clone(s), rising(4)...) {
			if got := zset.Of(s, x.Row); got != 0 {
				t.Fatalf("%v of %s: %v", x.Row, tell(s), got)
			}
		}
	}
}

func TestP61Total(t *testing.T) {
	for _, c := range []struct {
		s    api.Set
		want int64
		ok   bool
	}{
		{nil, 0, true},
		{api.Set{}, 0, true},
		{nets(7), 7, true},
		{nets(-7), -7, true},
		{nets(1, 2, 3), 6, true},
		{nets(1, -2, 3, -4), -2, true},
		{nets(5, -5), 0, true},
		{nets(-5, 5), 0, true},
		{nets(5, -5, 9), 9, true},
		// at the edge, on the way and at the end
		{nets(far), far, true},
		{nets(-far), -far, true},
		{nets(far-1, 1), far, true},
		{nets(1-far, -1), -far, true},
		{nets(far, -1, 1), far, true},
		{nets(-far, 1, -1), -far, true},
		{nets(far, -far, far), far, true},
		{nets(far, -far, -far), -far, true},
		{nets(far, -far, -far, far, far), far, true},
		{nets(far-1, 1, -7), far - 7, true},
		{nets(1-far, -1, 7), 7 - far, true},
		// beyond it
		{nets(far, 1), 0, false},
		{nets(1, far), 0, false},
		{nets(-far, -1), 0, false},
		{nets(-1, -far), 0, false},
		{nets(far, far), 0, false},
		{nets(-far, -far), 0, false},
		{nets(1, 1, 1, far-2), 0, false},
		// beyond it on the way alone
		{nets(far, 1, -1), 0, false},
		{nets(far, 1, -far), 0, false},
		{nets(1, far, -7), 0, false},
		{nets(-far, -1, 1), 0, false},
		{nets(-1, -far, 7), 0, false},
		{nets(far, far, -far, -far), 0, false},
		{nets(5, far, -far, -5), 0, false},
		{nets(5, -far, far, -5), 0, true},
	} {
		if got, ok := zset.Total(c.s); got != c.want || ok != c.ok {
			t.Errorf("Total(%s): %d, %v", tell(c.s), got, ok)
		}
	}
	for _, s := range wrongSets() {
		if got, ok := zset.Total(s); got != 0 || ok {
			t.Errorf("Total(%s): %d, %v", tell(s), got, ok)
		}
	}
}

func TestP61TotalOfVeryManyRows(t *testing.T) {
	var s api.Set
	for i := range int64(1024) {
		s = append(s, net(i, far/1024))
	}
	if got, ok := zset.Total(s); got != far || !ok {
		t.Errorf("%d, %v", got, ok)
	}
	if got, ok := zset.Total(append(s, net(1024, 1), net(1025, -1))); got != 0 || ok {
		t.Errorf("%d, %v", got, ok)
	}
}

func TestP61Plain(t *testing.T) {
	for _, s := range validSets() {
		want := true
		for _, x := range s {
			want = want && imag(x.T) == 0
		}
		if zset.Plain(s) != want {
			t.Errorf("Plain(%s): %v", tell(s), !want)
		}
	}
	for at := range 5 {
		s := nets(1, 2, 3, 4, far)
		if !zset.Plain(s) {
			t.Error("no row is removed")
		}
		for _, n := range []int64{-1, -7, -far} {
			s[at] = net(int64(at+1), n)
			if zset.Plain(s) {
				t.Errorf("Plain(%s)", tell(s))
			}
		}
	}
	for _, s := range wrongSets() {
		if zset.Plain(s) {
			t.Errorf("Plain(%s)", tell(s))
		}
	}
}

func TestP61Same(t *testing.T) {
	all := validSets()
	for _, a := range all {
		for _, b := range all {
			if zset.Same(a, b) != equal(a, b) {
				t.Errorf("Same(%s, %s): %v", tell(a), tell(b), !equal(a, b))
			}
		}
	}
	for _, s := range all {
		if !zset.Same(s, deep(s)) {
			t.Errorf("%s is not what it is", tell(s))
		}
		for i := range s {
			other := api.Set(deep(s))
			other[i].T = tally.Flip(other[i].T)
			shorter := slices.Delete(slices.Clone(s), i, i+1)
			for _, b := range []api.Set{other, shorter, s[:i]} {
				if zset.Same(s, b) || zset.Same(b, s) {
					t.Errorf("%s is the same as %s", tell(s), tell(b))
				}
			}
		}
	}
}

func TestP61SameOfWrongSets(t *testing.T) {
	for _, s := range wrongSets() {
		if zset.Same(s, s) || zset.Same(s, deep(s)) {
			t.Errorf("%s is not valid", tell(s))
		}
		made, _ := zset.Make(s)
		for _, b := range []api.Set{nil, rising(4), made} {
			if zset.Same(s, b) || zset.Same(b, s) {
				t.Errorf("%s is the same as %s", tell(s), tell(b))
			}
		}
	}
}

// long returns the eight bytes of n.
func long(n int64) string {
	w := wire.NewWriter()
	w.Long(n)
	return string(w.Done())
}

// bytesOf returns the bytes of a row and of a Net behind it.
func bytesOf(r api.Row, net int64) string {
	w := wire.NewWriter()
	row.Put(w, r)
	w.Long(net)
	return string(w.Done())
}

func TestP62Encode(t *testing.T) {
	for _, c := range []struct {
		s    api.Set
		want string
	}{
		{nil, "\x00\x00"},
		{api.Set{}, "\x00\x00"},
		{nets(258), "\x01\x00" + "\x01\x01\x01\x00\x00\x00\x00\x00\x00\x00" + "\x02\x01\x00\x00\x00\x00\x00\x00"},
		{nets(-1), "\x01\x00" + "\x01\x01\x01\x00\x00\x00\x00\x00\x00\x00" + "\xff\xff\xff\xff\xff\xff\xff\xff"},
		{nets(far), "\x01\x00" + "\x01\x01\x01\x00\x00\x00\x00\x00\x00\x00" + "\x00\x00\x00\x00\x00\x00\x04\x00"},
		{nets(-far), "\x01\x00" + "\x01\x01\x01\x00\x00\x00\x00\x00\x00\x00" + "\x00\x00\x00\x00\x00\x00\xfc\xff"},
		{api.Set{{Row: api.Row{str("a")}, T: 1}, {Row: api.Row{str("b"), str("")}, T: 2i}}, "\x02\x00" + "\x01\x02\x01\x00a" + "\x01\x00\x00\x00\x00\x00\x00\x00" + "\x02\x02\x01\x00b\x02\x00\x00" + "\xfe\xff\xff\xff\xff\xff\xff\xff"},
	} {
		if got := zset.Encode(c.s); string(got) != c.want {
			t.Errorf("Encode(%s): %x, not %x", tell(c.s), got, c.want)
		}
	}
	for _, s := range validSets() {
		want := string([]byte{byte(len(s)), 0})
		for _, x := range s {
			want += bytesOf(x.Row, int64(real(x.T))-int64(imag(x.T)))
		}
		if got := zset.Encode(s); string(got) != want {
			t.Errorf("Encode(%s): %x, not %x", tell(s), got, want)
		}
	}
}

func TestP62EncodeOfWrongSets(t *testing.T) {
	for _, s := range wrongSets() {
		if got := zset.Encode(s); len(got) != 0 {
			t.Errorf("Encode(%s): %x", tell(s), got)
		}
	}
}

// decodes checks that b is the encoding of s.
func decodes(t *testing.T, b []byte, s api.Set) {
	t.Helper()
	got, why := zset.Decode(b)
	if why != api.OK || !equal(got, s) {
		t.Errorf("Decode of %s: %s, %d", tell(s), tell(got), why)
	}
}

// refuses checks which error Decode tells of b, and that there is no set beside it.
func refuses(t *testing.T, b string, why api.Errno) {
	t.Helper()
	if got, w := zset.Decode([]byte(b)); w != why || len(got) != 0 {
		t.Errorf("Decode(%.80x): %s, %d; not %d", b, tell(got), w, why)
	}
}

func TestP62DecodeOfWhatEncodeReturns(t *testing.T) {
	for _, s := range validSets() {
		decodes(t, zset.Encode(s), s)
	}
	decodes(t, []byte("\x00\x00"), nil)
	decodes(t, []byte("\x01\x00"+bytesOf(ints(5, 6), -7)), api.Set{{Row: ints(5, 6), T: 7i}})
}

func TestP62AsManyRowsAsAShortTells(t *testing.T) {
	const most = 1<<16 - 1
	for _, n := range []int{255, 256, 257, most - 1, most} {
		s := rising(n)
		b := zset.Encode(s)
		if len(b) != 2+18*n || b[0] != byte(n) || b[1] != byte(n>>8) {
			t.Fatalf("%d rows: %d bytes", n, len(b))
		}
		decodes(t, b, s)
		refuses(t, string(b[:len(b)-1]), api.ErrEnd)
	}
	for _, n := range []int{most + 1, most + 2, most + 257} {
		if b := zset.Encode(rising(n)); len(b) != 0 {
			t.Errorf("%d rows: %d bytes", n, len(b))
		}
	}
	if s := rising(most + 1); !zset.Right(s) || !zset.Same(s, s) {
		t.Error("more rows than a Short tells are a valid set")
	}
}

func TestP62DecodeOfBytesThatEndTooSoon(t *testing.T) {
	refuses(t, "", api.ErrEnd)
	refuses(t, "\x00", api.ErrEnd)
	refuses(t, "\x01\x00", api.ErrEnd)
	refuses(t, "\xff\xff", api.ErrEnd)
	refuses(t, "\xff\xff"+bytesOf(ints(1), 1), api.ErrEnd)
	for _, s := range validSets() {
		b := string(zset.Encode(s))
		for n := range min(len(b), 3000) {
			refuses(t, b[:n], api.ErrEnd)
		}
		if len(s) > 0 {
			refuses(t, string([]byte{byte(len(s) + 1), 0})+b[2:], api.ErrEnd)
		}
	}
}

func TestP62DecodeOfBytesThatGoOnTooLong(t *testing.T) {
	for _, s := range validSets() {
		b := string(zset.Encode(s))
		for _, more := range []string{"\x00", "\x01", "\xff", bytesOf(ints(math.MaxInt64, 1), 1), b} {
			refuses(t, b+more, api.ErrTail)
		}
		if len(s) > 0 {
			refuses(t, string([]byte{byte(len(s) - 1), 0})+b[2:], api.ErrTail)
		}
	}
	refuses(t, "\x00\x00\x00", api.ErrTail)
}

func TestP62DecodeOfWrongRows(t *testing.T) {
	for at := range 3 {
		head, tail := "\x03\x00", ""
		for i := range int64(3) {
			if i < int64(at) {
				head += bytesOf(ints(i), 1)
			}
			if i > int64(at) {
				tail += bytesOf(ints(i), 1)
			}
		}
		for _, c := range []struct {
			row string
			why api.Errno
		}{
			{"\x00", api.ErrLong},
			{"\x07" + strings.Repeat("\x02\x00\x00", 7), api.ErrLong},
			{"\xff", api.ErrLong},
			{"\x01\x00" + long(5), api.ErrForm},
			{"\x01\x03" + long(5), api.ErrForm},
			{"\x02\x02\x00\x00\xff", api.ErrForm},
			{"\x01\x02\x29\x00" + longest + "z", api.ErrLong},
			{"\x01\x02\xff\xff", api.ErrLong},
		} {
			refuses(t, head+c.row+long(1)+tail, c.why)
			refuses(t, head+c.row, c.why)
			refuses(t, head+c.row+long(0)+tail+"\x00", c.why)
		}
	}
}

func TestP62DecodeOfWrongNets(t *testing.T) {
	for _, n := range []int64{0, far + 1, -far - 1, far + 2, 2 * far, -2 * far, 1 << 53, 1<<53 + 1, 1<<62 + 1, math.MaxInt64, math.MinInt64, math.MinInt64 + 1} {
		refuses(t, "\x01\x00"+bytesOf(ints(1), n), api.ErrForm)
		for at := range 4 {
			b := "\x04\x00"
			for i := range 4 {
				if i == at {
					b += bytesOf(inOrder[i], n)
				} else {
					b += bytesOf(inOrder[i], -3)
				}
			}
			refuses(t, b, api.ErrForm)
			refuses(t, b[:len(b)-1], api.ErrEnd)
			refuses(t, b+"\x00", api.ErrTail)
		}
	}
	for _, n := range []int64{1, -1, far - 1, 1 - far, far, -far} {
		decodes(t, []byte("\x01\x00"+bytesOf(ints(1), n)), nets(n))
	}
}

func TestP62DecodeOfRowsThatDoNotRise(t *testing.T) {
	for i, a := range inOrder {
		for k, b := range inOrder {
			both := "\x02\x00" + bytesOf(a, 2) + bytesOf(b, -1)
			if i < k {
				decodes(t, []byte(both), api.Set{{Row: a, T: 2}, {Row: b, T: 1i}})
				continue
			}
			refuses(t, both, api.ErrForm)
		}
	}
	for i, l := range orders(nets(1, 2, 3, 4)) {
		b := "\x04\x00"
		for _, x := range l {
			b += bytesOf(x.Row, int64(real(x.T)))
		}
		if i > 0 {
			refuses(t, b, api.ErrForm)
		}
	}
}

// What the Reader can't read is told ahead of what is no set, wherever either of them stands.
func TestP62DecodeTellsOfTheReaderFirst(t *testing.T) {
	for _, head := range []string{
		bytesOf(ints(1), 0) + bytesOf(ints(2), 1),
		bytesOf(ints(1), 1) + bytesOf(ints(2), far+1),
		bytesOf(ints(2), 1) + bytesOf(ints(1), 1),
		bytesOf(ints(2), 1) + bytesOf(ints(2), 1),
	} {
		refuses(t, "\x02\x00"+head, api.ErrForm)
		refuses(t, "\x03\x00"+head+bytesOf(ints(3), 1), api.ErrForm)
		refuses(t, "\x03\x00"+head, api.ErrEnd)
		refuses(t, "\x03\x00"+head+bytesOf(ints(3), 1)[:17], api.ErrEnd)
		refuses(t, "\x03\x00"+head+"\x00", api.ErrLong)
		refuses(t, "\x03\x00"+head+"\x01\x02\x29\x00", api.ErrLong)
		refuses(t, "\x02\x00"+head+"\x00", api.ErrTail)
		refuses(t, "\x01\x00"+head, api.ErrTail)
	}
	// Of two errors of the Reader, the first counts.
	refuses(t, "\x02\x00\x00"+bytesOf(ints(1), 1)+"\x01\x03", api.ErrLong)
	refuses(t, "\x02\x00\x01\x03"+long(1)+"\x00", api.ErrForm)
	refuses(t, "\x01\x00\x01\x03", api.ErrForm)
}

func TestP62WhatDecodeReturnsHasOneEncoding(t *testing.T) {
	x := rand.New(rand.NewSource(62))
	seen := map[api.Errno]int{}
	all := validSets()
	for range 30000 {
		b := zset.Encode(all[x.Intn(len(all))])
		for range x.Intn(3) {
			b[x.Intn(len(b))] += byte(x.Intn(5) - 2)
		}
		s, why := zset.Decode(b)
		seen[why]++
		if why != api.OK && len(s) > 0 {
			t.Fatalf("beside error %d: %s", why, tell(s))
		}
		if why == api.OK && (!zset.Right(s) || string(zset.Encode(s)) != string(b)) {
			t.Fatalf("%x is read as %s", b, tell(s))
		}
	}
	for _, why := range []api.Errno{api.OK, api.ErrEnd, api.ErrTail, api.ErrForm, api.ErrLong} {
		if seen[why] < 10 {
			t.Errorf("error %d: %d times", why, seen[why])
		}
	}
}

// sum returns the Add of two sets, and which error it tells.
func sum(a, b api.Set) (api.Set, bool) {
	s, why := zset.Add(a, b)
	return s, why == api.OK
}

func TestP63AddIsCommutative(t *testing.T) {
	for _, a := range validSets() {
		for _, b := range validSets() {
			one, why := zset.Add(a, b)
			other, w := zset.Add(b, a)
			if why != w || !zset.Same(one, other) {
				t.Fatalf("%s and %s: %s, %d; %s, %d", tell(a), tell(b), tell(one), why, tell(other), w)
			}
		}
	}
}

func TestP63AddIsAssociative(t *testing.T) {
	x := rand.New(rand.NewSource(65))
	all := validSets()
	added := 0
	for range 20000 {
		a, b, c := all[x.Intn(len(all))], all[x.Intn(len(all))], all[x.Intn(len(all))]
		ab, one := sum(a, b)
		bc, two := sum(b, c)
		left, three := sum(ab, c)
		right, four := sum(a, bc)
		if !one || !two || !three || !four {
			continue
		}
		added++
		if !zset.Same(left, right) {
			t.Fatalf("%s, %s and %s: %s and %s", tell(a), tell(b), tell(c), tell(left), tell(right))
		}
	}
	if added < 1000 {
		t.Errorf("only %d sums", added)
	}
}

func TestP63ASetAndItsFlipAddUpToNothing(t *testing.T) {
	for _, s := range validSets() {
		for _, c := range [][2]api.Set{{s, zset.Flip(s)}, {zset.Flip(s), s}} {
			if got, why := zset.Add(c[0], c[1]); why != api.OK || len(got) != 0 {
				t.Errorf("%s: %s, %d", tell(s), tell(got), why)
			}
		}
	}
}

func TestP63WhatIsMadeIsValid(t *testing.T) {
	x := rand.New(rand.NewSource(66))
	for range 300 {
		var l []api.Item
		for range x.Intn(40) {
			l = append(l, of(x.Int63n(20), x.Int63n(4), x.Int63n(4)))
		}
		s, why := zset.Make(l)
		if why != api.OK || !zset.Right(s) {
			t.Fatalf("Make(%s): %s, %d", tell(l), tell(s), why)
		}
		twice, why := zset.Add(s, s)
		if why != api.OK || !zset.Right(twice) || len(twice) != len(s) {
			t.Fatalf("twice %s: %s, %d", tell(s), tell(twice), why)
		}
		for i, x := range s {
			if twice[i].T != 2*x.T || zset.Of(twice, x.Row) != 2*x.T {
				t.Fatalf("twice %s: %s", tell(s), tell(twice))
			}
		}
	}
}

// spread returns a copy of l whose lists all have spare capacity, filled with what stands nowhere else.
func spread(l []api.Item) []api.Item {
	spare := api.Item{Row: ints(12345), T: tally.Of(9, 0)}
	var c []api.Item
	for _, x := range l {
		c = append(c, api.Item{Row: append(slices.Clone(x.Row), num(98), num(97))[:len(x.Row)], T: x.T})
	}
	return append(c, spare, spare)[:len(l)]
}

// whole returns a copy of l and its rows, with the spare capacity of all of them.
func whole(l []api.Item) []api.Item {
	l = slices.Clone(l[:cap(l)])
	for i, x := range l {
		l[i].Row = slices.Clone(x.Row[:cap(x.Row)])
	}
	return l
}

// everyCall calls each function with l in each place, and hands what is a set to use.
func everyCall(l []api.Item, use func(api.Set)) {
	made, _ := zset.Make(l)
	use(made)
	both, _ := zset.Add(l, l)
	use(both)
	left, _ := zset.Add(l, nil)
	use(left)
	right, _ := zset.Add(nil, l)
	use(right)
	use(zset.Flip(l))
	b := zset.Encode(l)
	read, _ := zset.Decode(b)
	clear(b[:cap(b)])
	use(read)
	zset.Right(l)
	zset.Total(l)
	zset.Plain(l)
	zset.Same(l, l)
	for _, x := range l {
		zset.Of(l, x.Row)
	}
}

func TestArgumentsStayAsTheyAre(t *testing.T) {
	x := rand.New(rand.NewSource(67))
	for _, s := range append(validSets(), wrongSets()[:80]...) {
		for _, l := range [][]api.Item{s, backwards(s), mixed(x, s)} {
			given := spread(l)
			before := whole(given)
			everyCall(given, func(api.Set) {})
			for i, x := range given[:cap(given)] {
				if !slices.Equal(x.Row[:cap(x.Row)], before[i].Row) || fmt.Sprint(x.T) != fmt.Sprint(before[i].T) {
					t.Fatalf("item %d of %s became %v", i, tell(l), x)
				}
			}
		}
	}
}

func TestSpareCapacityIsNotRead(t *testing.T) {
	for _, s := range validSets() {
		given := api.Set(spread(s))
		if !zset.Right(given) || !zset.Same(given, s) || zset.Of(given, ints(12345)) != 0 {
			t.Errorf("the spare capacity of %s counts", tell(s))
		}
		makes(t, given, s, api.OK)
		if string(zset.Encode(given)) != string(zset.Encode(s)) {
			t.Errorf("the spare capacity of %s is written", tell(s))
		}
	}
}

// overwrite fills s and its rows, spare capacity and all, and checks ahead of each row that those before it left it as it was.
func overwrite(t *testing.T, s api.Set) {
	t.Helper()
	want := deep(s)
	for i, x := range s {
		if !slices.Equal(x.Row, want[i].Row) {
			t.Fatalf("row %d became %v", i, x.Row)
		}
		for k := range x.Row[:cap(x.Row)] {
			x.Row[:cap(x.Row)][k] = str("gone")
		}
	}
	clear(s[:cap(s)])
}

func TestAnswersAreNewMemory(t *testing.T) {
	x := rand.New(rand.NewSource(68))
	for _, s := range validSets() {
		for _, l := range [][]api.Item{s, backwards(s), mixed(x, s)} {
			given := spread(l)
			everyCall(given, func(got api.Set) { overwrite(t, got) })
			if !equal(given, l) {
				t.Fatalf("%s became %s", tell(l), tell(given))
			}
		}
	}
}

// What is answered stays as it is, whatever becomes of what was handed in.
func TestAnswersKeepNoArgument(t *testing.T) {
	for _, s := range validSets() {
		given := spread(s)
		var answers, copies []api.Set
		everyCall(given, func(got api.Set) {
			answers = append(answers, got)
			copies = append(copies, deep(got))
		})
		overwrite(t, given)
		for i, got := range answers {
			if !equal(got, copies[i]) {
				t.Fatalf("answer %d, of %s, became %s", i, tell(s), tell(got))
			}
		}
	}
}

func TestBytesThatAreReadAndWrittenAreNewMemory(t *testing.T) {
	s := api.Set{{Row: api.Row{str("a"), str("b")}, T: 1}, {Row: api.Row{str("c")}, T: 2i}}
	b := zset.Encode(s)
	want := string(b)
	got, _ := zset.Decode(b)
	if string(b) != want {
		t.Errorf("Decode turned its bytes to %x", b)
	}
	clear(b[:cap(b)])
	if !equal(got, s) || string(zset.Encode(s)) != want {
		t.Errorf("%s", tell(got))
	}
}

// What is answered does not depend on earlier calls.
func TestCallsKeepNothing(t *testing.T) {
	x := rand.New(rand.NewSource(69))
	all := validSets()
	for range 500 {
		s := all[x.Intn(len(all))]
		makes(t, mixed(x, s), s, api.OK)
		makes(t, []api.Item{of(1, far, 0), of(1, 1, 0)}, nil, api.ErrRange)
		makes(t, []api.Item{{}}, nil, api.ErrArg)
	}
}

func TestRowsComeInTheOrderOfRow(t *testing.T) {
	x := rand.New(rand.NewSource(70))
	for range 200 {
		var l []api.Item
		for range 20 {
			r := make(api.Row, 1+x.Intn(api.MaxCols))
			for i := range r {
				r[i] = []api.Value{num(-1), num(0), num(1), str(""), str("a"), str("ab")}[x.Intn(6)]
			}
			l = append(l, api.Item{Row: r, T: 1})
		}
		s, _ := zset.Make(l)
		if !sort.SliceIsSorted(s, func(i, k int) bool { return row.Less(s[i].Row, s[k].Row) }) {
			t.Fatalf("%s", tell(s))
		}
		total, ok := zset.Total(s)
		if total != int64(len(l)) || !ok || !zset.Plain(s) {
			t.Fatalf("%d of %d items", total, len(l))
		}
	}
}

func TestExamples(t *testing.T) {
	makes(t, []api.Item{of(1, 1, 0), of(1, 0, 1)}, nil, api.OK)
	makes(t, []api.Item{of(2, 1, 0), of(1, 2, 0)}, api.Set{of(1, 2, 0), of(2, 1, 0)}, api.OK)
	makes(t, nil, nil, api.OK)
	if !zset.Right(nil) || !zset.Right(api.Set{}) {
		t.Error("the empty set is valid")
	}
	if got, ok := zset.Total(api.Set{of(1, 0, 3)}); got != -3 || !ok {
		t.Errorf("Total of [1] 0 3: %d, %v", got, ok)
	}
	if zset.Plain(api.Set{of(1, 0, 3)}) {
		t.Error("Plain of [1] 0 3")
	}
}
