package fold_test

import (
	"bytes"
	"math"
	"math/rand"
	"slices"
	"testing"

	"confluence/api"
	"confluence/fold"
	"confluence/zset"
)

// alike checks that f and g have the same rows and take the same ones.
func alike(t *testing.T, f, g *fold.Fold) {
	t.Helper()
	holds(t, g, f.Input()...)
	has(t, g, f.Rows()...)
	// Rows of each length, with a text at each place or with none, tell which positions are used and for what.
	f, g = loaded(t, f), loaded(t, g)
	for n := 1; n <= api.MaxCols; n++ {
		for text := range n + 1 {
			r := of(100+text, 101, 102-n, 103, 104, 105)[:n]
			if text < n {
				r[text] = of("x")[0]
			}
			s := api.Set{{Row: r, T: 2}}
			a, why := f.Change(s)
			b, errno := g.Change(s)
			if errno != why || !equal(a, b) {
				t.Fatalf("P13.3: Change(%s): %s, %d, not %s, %d", tell(s), tell(b), errno, tell(a), why)
			}
			has(t, g, f.Rows()...)
		}
	}
}

func TestP133SavedAndLoaded(t *testing.T) {
	for _, x := range shapes {
		f := x.fold(t)
		alike(t, f, loaded(t, f))
		r := rand.New(rand.NewSource(133))
		for range 30 {
			f.Change(someChange(r, x, f.Input()))
			f = loaded(t, f)
		}
		alike(t, f, loaded(t, f))
	}
	for _, net := range []int64{1, 2, 255, 256, 511, 512} {
		f := by(t, []int{1}, "count min0", it(net, longest, "", -1, "\x00\xff", 6))
		alike(t, f, loaded(t, f))
		has(t, loaded(t, f), it(1, "", net, longest))
	}
	for _, n := range []int64{0, -1, 1, math.MaxInt64, math.MinInt64} {
		f := by(t, []int{0}, "sum1 max1", it(1, n, n))
		has(t, loaded(t, f), it(1, n, n, n))
	}
}

// A fold of the most groups, with rows of the most bytes.
func TestP133SavedAndLoadedWithManyGroups(t *testing.T) {
	var l []api.Item
	for i := range api.MaxOut {
		l = append(l, it(1, i, longest, longest[1:]+"a", longest, longest, longest))
	}
	f := by(t, []int{0, 5}, "count sum0 max2", l...)
	g := loaded(t, f)
	holds(t, g, f.Input()...)
	has(t, g, f.Rows()...)
	if n := len(g.Rows()); n != api.MaxOut {
		t.Errorf("P13.3: %d rows", n)
	}
	refuses(t, g, set(it(1, -1, 0, 0, 0, 0, 0)), api.ErrRange)
}

func TestP133SavedAndLoadedGoTheirOwnWays(t *testing.T) {
	f := by(t, []int{1}, "count sum0", rowsOf(1, 2, 3)...)
	b := f.Save()
	g := loaded(t, f)
	turns(t, g, set(it(-1, 1, 5), it(1, 1, 6)), it(-1, 5, 3, 5), it(1, 5, 2, 4), it(-1, 6, 3, 9), it(1, 6, 4, 10))
	holds(t, f, rowsOf(1, 2, 3)...)
	has(t, f, it(1, 5, 3, 5), it(1, 6, 3, 9))
	has(t, g, it(1, 5, 2, 4), it(1, 6, 4, 10))
	if !bytes.Equal(f.Save(), b) {
		t.Error("P13.3: Save turned the fold")
	}
	turns(t, f, rowsOf(-1, -2, -3), it(-1, 5, 3, 5), it(-1, 6, 3, 9))
	has(t, f)
	has(t, g, it(1, 5, 2, 4), it(1, 6, 4, 10))
	has(t, loaded(t, g), it(1, 5, 2, 4), it(1, 6, 4, 10))
	h, _ := fold.Load(b)
	holds(t, h, rowsOf(1, 2, 3)...)
	refuses(t, h, set(it(far, 1, 5)), api.ErrRange)
	refuses(t, h, set(it(1, 1)), api.ErrArg)
	refuses(t, h, set(it(1, math.MaxInt64, 5)), api.ErrOver)
	has(t, h, it(1, 5, 3, 5), it(1, 6, 3, 9))
}

// The same fold has the same bytes, however it was reached: else Load, which makes it anew, would be asked what another way to it wrote.
func TestP133SameFoldReachedInOtherWays(t *testing.T) {
	for _, x := range []shape{{[]int{1}, funs("count")}, {[]int{0, 1}, nil}, {nil, funs("sum0 min1")}, {[]int{1, 0}, funs("max0")}} {
		f, g, h := x.fold(t), x.fold(t), x.fold(t)
		f.Change(rowsOf(1, 2, 3))
		for _, item := range []api.Item{it(4, 3, 6), it(1, 9, 9), it(2, 2, 5), it(-1, 3, 6), it(1, 1, 5), it(-1, 9, 9)} {
			g.Change(api.Set{item})
		}
		h.Change(rowsOf(5, 5, 7))
		h.Change(rowsOf(-5, -5, -7))
		holds(t, h)
		h.Change(rowsOf(100, 100, 100))
		refuses(t, h, rowsOf(413, 1, 1), api.ErrRange)
		h.Change(rowsOf(-99, -98, -97))
		for _, other := range []*fold.Fold{g, h, loaded(t, f), loaded(t, loaded(t, h))} {
			alike(t, f, other)
			if !bytes.Equal(other.Save(), f.Save()) {
				t.Errorf("P13.3: %x, not %x", other.Save(), f.Save())
			}
		}
	}
}

// notLoaded checks that Load answers nothing.
func notLoaded(t *testing.T, b []byte) {
	t.Helper()
	if f, why := fold.Load(b); f != nil || why != api.ErrForm {
		t.Errorf("P13.3: Load of %x: %v, %d", b, f, why)
	}
}

// loads checks that Load answers a fold of which b is the result of Save, or nothing, and returns whether it is one.
func loads(t *testing.T, b []byte) bool {
	t.Helper()
	f, why := fold.Load(b)
	if why != api.OK {
		notLoaded(t, b)
		return false
	}
	n, _ := zset.Total(f.Input())
	if !bytes.Equal(f.Save(), b) || !zset.Plain(f.Input()) || !zset.Plain(f.Rows()) || n > api.MaxOut {
		t.Errorf("P13.3: Load of %x: %s, which is saved as %x", b, tell(f.Input()), f.Save())
	}
	return true
}

// savedOnes are results of Save.
func savedOnes(t *testing.T) [][]byte {
	var all [][]byte
	for _, x := range []shape{
		{[]int{0}, nil}, {[]int{2, 2}, nil}, {nil, funs("count")}, {nil, funs("max0 sum1 min2")},
		{[]int{1}, []fold.Fun{{Name: "count", Col: 77}, {Name: "max", Col: 2}}}, {[]int{0, 1, 2}, funs("sum1 count min0")},
	} {
		for _, l := range []api.Set{nil, set(it(1, 1, 5, "a")), set(it(1, 1, 5, "a"), it(2, 1, 5, "b"), it(500, 2, 0, 7), it(9, "", math.MaxInt64>>4, "", "", "", ""))} {
			f := x.fold(t)
			f.Change(l)
			holds(t, f, l...)
			all = append(all, f.Save())
		}
	}
	return all
}

func TestP133LoadOfNoBytes(t *testing.T) {
	notLoaded(t, nil)
	notLoaded(t, []byte{})
	notLoaded(t, make([]byte, 0, 20))
}

func TestP133LoadOfBytesCutShort(t *testing.T) {
	for _, b := range savedOnes(t) {
		for n := range b {
			notLoaded(t, b[:n])
			loads(t, b[n:])
		}
	}
}

func TestP133LoadOfBytesWithMoreBehind(t *testing.T) {
	for _, b := range savedOnes(t) {
		for more := range 256 {
			notLoaded(t, append(slices.Clone(b), byte(more)))
		}
		notLoaded(t, append(slices.Clone(b), 0, 0))
		notLoaded(t, append(slices.Clone(b), b...))
	}
}

func TestP133LoadOfBytesThatAreChanged(t *testing.T) {
	good := 0
	for _, b := range savedOnes(t) {
		for at := range b {
			for change := 1; change < 256; change++ {
				turned := slices.Clone(b)
				turned[at] ^= byte(change)
				if loads(t, turned) {
					good++
				}
			}
		}
	}
	if good == 0 {
		t.Error("no change made another fold")
	}
}

func TestP133LoadOfOtherBytes(t *testing.T) {
	r := rand.New(rand.NewSource(1332))
	all := savedOnes(t)
	for range 20000 {
		b := slices.Clone(all[r.Intn(len(all))])
		for range 1 + r.Intn(3) {
			at := r.Intn(len(b) + 1)
			switch r.Intn(3) {
			case 0:
				b = slices.Insert(b, at, byte(r.Intn(256)))
			case 1:
				b = slices.Delete(b, at, min(at+1+r.Intn(12), len(b)))
			default:
				from := r.Intn(len(b) + 1)
				b = slices.Insert(b, at, slices.Clone(b[from:min(from+r.Intn(30), len(b))])...)
			}
		}
		loads(t, b)
	}
	for range 20000 {
		b := make([]byte, r.Intn(24))
		for i := range b {
			b[i] = []byte{0, 1, 2, 3, 5, 6, 255}[r.Intn(7)]
		}
		loads(t, b)
	}
}

// written returns the bytes of a fold by position 1 with some functions that has these rows, be they its Input or not.
func written(t *testing.T, names string, s api.Set) []byte {
	t.Helper()
	none := by(t, []int{1}, names).Save()
	return append(slices.Clone(none[:len(none)-len(zset.Encode(nil))]), zset.Encode(s)...)
}

func TestP133LoadOfRowsThatMakeNoFold(t *testing.T) {
	if b := written(t, "count sum0", rowsOf(1, 2, 3)); !bytes.Equal(b, by(t, []int{1}, "count sum0", rowsOf(1, 2, 3)...).Save()) {
		t.Fatalf("%x", b)
	}
	loads(t, written(t, "count", rowsOf(1, 510, 1)))
	for _, s := range []api.Set{
		rowsOf(-1, 2, 3), rowsOf(1, 2, -3), rowsOf(-far, -far, -far), // rows that are removed more often than they are added
		rowsOf(1, 511, 1), rowsOf(far, 1, 1), rowsOf(1, 1, far), rowsOf(far, far, far), many(513, 5), // too many
		set(it(1, 1)), set(it(1, 1), it(1, 1, 5)), // too short
		set(it(1, "x", 5)), set(it(1, 1, 5), it(1, "x", 6)), // texts that are added
		set(it(2, 1<<62, 5)), set(it(1, math.MaxInt64, 5), it(1, 1, 5), it(1, 1, 6)), set(it(1, math.MinInt64, 5), it(1, -1, 5)), // sums that are too great
	} {
		notLoaded(t, written(t, "count sum0", s))
	}
	for _, net := range [][]byte{{0, 0, 0, 0, 0, 0, 0, 0}, {255, 255, 255, 255, 255, 255, 255, 255}, {1, 2, 0, 0, 0, 0, 0, 0}, {0, 0, 0, 0, 0, 0, 0, 128}, {1, 0, 0, 0, 0, 0, 0, 128}, {1, 0, 0, 0, 0, 0, 32, 0}} {
		b := written(t, "count", set(it(1, 1, 5)))
		copy(b[len(b)-8:], net)
		notLoaded(t, b)
	}
	// rows that are not in order, and one that comes twice
	two := set(it(1, 1, 5), it(1, 2, 5))
	head := len(written(t, "count", nil))
	b := written(t, "count", two)
	half := (len(b) - head) / 2
	notLoaded(t, slices.Concat(b[:head], b[head+half:], b[head:head+half]))
	notLoaded(t, slices.Concat(b[:head+half], b[head:head+half]))
}
