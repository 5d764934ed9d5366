package index_test

import (
	"bytes"
	"math/rand"
	"slices"
	"testing"

	"confluence/api"
	"confluence/index"
	"confluence/zset"
)

// alike checks that x and y have the same rows and keys and take the same rows.
func alike(t *testing.T, x, y *index.Index) {
	t.Helper()
	all := x.All()
	if !equal(y.All(), all) {
		t.Fatalf("P12.2: %s, not %s", tell(y.All()), tell(all))
	}
	keys := x.Keys()
	hasKeys(t, y, keys...)
	for _, key := range keys {
		finds(t, y, key, x.Find(key)...)
	}
	// Rows of each length tell which positions there are.
	x, y = loaded(t, x), loaded(t, y)
	for n := 1; n <= api.MaxCols; n++ {
		r := of(100, 101, 102, 103, 104, 105)[:n]
		s := api.Set{{Row: r, T: 1}}
		if a, b := x.Change(s), y.Change(s); a != b {
			t.Fatalf("P12.2: Change(%s): %d, not %d", tell(s), b, a)
		}
		hasKeys(t, y, x.Keys()...)
	}
}

func TestP122SavedAndLoaded(t *testing.T) {
	long := of(1, longest, "", -1, "\x00\xff", 6)
	for _, at := range positions {
		x := by(t, at)
		alike(t, x, loaded(t, x))
		for _, net := range []int64{1, -1, 256, far, -far} {
			x = by(t, at, api.Item{Row: long, T: it(net).T})
			alike(t, x, loaded(t, x))
			has(t, loaded(t, x), api.Item{Row: long, T: it(net).T})
		}
		r := rand.New(rand.NewSource(122))
		for range 20 {
			x.Change(someSet(r, 1+slices.Max(at)))
		}
		alike(t, x, loaded(t, x))
	}
}

// A set of so many rows has no bytes of its own.
func TestP122SavedAndLoadedWithManyRows(t *testing.T) {
	var s api.Set
	for i := range 1<<16 + 1 {
		s = append(s, it(int64(1+i%3), i, i%1000))
	}
	x := by(t, []int{1}, s...)
	y := loaded(t, x)
	has(t, y, s...)
	if n := len(y.Keys()); n != 1000 {
		t.Errorf("P12.2: %d keys", n)
	}
	finds(t, y, of(7), x.Find(of(7))...)
	if n := len(y.Find(of(7))); n != 66 {
		t.Errorf("P12.2: %d rows", n)
	}
}

func TestP122SavedAndLoadedGoTheirOwnWays(t *testing.T) {
	x := by(t, []int{1}, rowsOf(1, 2, 3)...)
	b := x.Save()
	y := loaded(t, x)
	changes(t, y, api.Set{it(-1, 1, 5), it(1, 1, 6)}, api.OK)
	has(t, x, rowsOf(1, 2, 3)...)
	has(t, y, it(1, 1, 6), it(2, 2, 5), it(3, 3, 6))
	if !bytes.Equal(x.Save(), b) {
		t.Error("P12.2: Save turned the index")
	}
	changes(t, x, rowsOf(-1, -2, -3), api.OK)
	has(t, x)
	hasKeys(t, x)
	hasKeys(t, y, of(5), of(6))
	has(t, loaded(t, y), it(1, 1, 6), it(2, 2, 5), it(3, 3, 6))
	z, _ := index.Load(b)
	has(t, z, rowsOf(1, 2, 3)...)
	changes(t, z, api.Set{it(far, 1, 5)}, api.ErrRange)
	changes(t, z, api.Set{it(1, 1)}, api.ErrArg)
	has(t, z, rowsOf(1, 2, 3)...)
}

// The same index has the same bytes, however it was reached: else Load, which makes it anew, would be asked what another way to it wrote.
func TestP122SameIndexReachedInOtherWays(t *testing.T) {
	for _, at := range [][]int{{1}, {0, 1}, {1, 0}} {
		x := by(t, at, rowsOf(1, 2, 3)...)
		y := by(t, at)
		for _, item := range []api.Item{it(4, 3, 6), it(1, 9, 9), it(2, 2, 5), it(-1, 3, 6), it(1, 1, 5), it(-1, 9, 9)} {
			changes(t, y, api.Set{item}, api.OK)
		}
		z := by(t, at)
		changes(t, z, rowsOf(-1, 5, 7), api.OK)
		changes(t, z, rowsOf(1, -5, -7), api.OK)
		has(t, z)
		changes(t, z, rowsOf(far, far, far), api.OK)
		changes(t, z, rowsOf(1, 1, 1), api.ErrRange)
		changes(t, z, rowsOf(1-far, 2-far, 3-far), api.OK)
		for _, other := range []*index.Index{y, z, loaded(t, x), loaded(t, loaded(t, z))} {
			alike(t, x, other)
			if !bytes.Equal(other.Save(), x.Save()) {
				t.Errorf("P12.2: %x, not %x", other.Save(), x.Save())
			}
		}
	}
}

// refused checks that Load answers nothing.
func refused(t *testing.T, b []byte) {
	t.Helper()
	if x, why := index.Load(b); x != nil || why != api.ErrForm {
		t.Errorf("P12.2: Load of %x: %v, %d", b, x, why)
	}
}

// loads checks that Load answers an index of which b is the result of Save, or nothing, and returns whether it is one.
func loads(t *testing.T, b []byte) bool {
	t.Helper()
	x, why := index.Load(b)
	if why != api.OK {
		refused(t, b)
		return false
	}
	if !bytes.Equal(x.Save(), b) || !zset.Right(x.All()) {
		t.Errorf("P12.2: Load of %x: %s, which is saved as %x", b, tell(x.All()), x.Save())
	}
	return true
}

// savedOnes are results of Save.
func savedOnes(t *testing.T) [][]byte {
	var all [][]byte
	for _, at := range [][]int{{0}, {1}, {1, 0}, {2, 2}, {0, 1, 2, 0, 1, 2}} {
		for _, l := range [][]api.Item{nil, {it(1, 1, 5, "a")}, {it(1, 1, 5, "a"), it(-1, 1, 5, "b"), it(far, 2, "x", 7), it(-far, "", "", "", "", "", "")}} {
			all = append(all, by(t, at, l...).Save())
		}
	}
	return all
}

func TestP122LoadOfNoBytes(t *testing.T) {
	refused(t, nil)
	refused(t, []byte{})
	refused(t, make([]byte, 0, 20))
}

func TestP122LoadOfBytesCutShort(t *testing.T) {
	for _, b := range savedOnes(t) {
		var whole int
		for n := range b {
			if loads(t, b[:n]) {
				whole++
			}
			loads(t, b[n:])
		}
		// Nothing is left out but a row at the end.
		if x, _ := index.Load(b); whole != len(x.All()) {
			t.Errorf("P12.2: %d beginnings of %x load", whole, b)
		}
	}
}

func TestP122LoadOfBytesWithMoreBehind(t *testing.T) {
	for _, b := range savedOnes(t) {
		for more := range 256 {
			refused(t, append(slices.Clone(b), byte(more)))
		}
		refused(t, append(slices.Clone(b), 0, 0))
		refused(t, append(slices.Clone(b), b...))
	}
}

func TestP122LoadOfBytesThatAreChanged(t *testing.T) {
	good := 0
	for _, b := range savedOnes(t) {
		for at := range b {
			for change := 1; change < 256; change++ {
				turned := slices.Clone(b)
				turned[at] ^= byte(change)
				if loads(t, turned) {
					good++
				}
			}
		}
	}
	if good == 0 {
		t.Error("no change made another index")
	}
}

func TestP122LoadOfOtherBytes(t *testing.T) {
	r := rand.New(rand.NewSource(1222))
	all := savedOnes(t)
	for range 20000 {
		b := slices.Clone(all[r.Intn(len(all))])
		for range 1 + r.Intn(3) {
			at := r.Intn(len(b) + 1)
			switch r.Intn(3) {
			case 0:
				b = slices.Insert(b, at, byte(r.Intn(256)))
			case 1:
				b = slices.Delete(b, at, min(at+1+r.Intn(12), len(b)))
			default:
				from := r.Intn(len(b) + 1)
				b = slices.Insert(b, at, slices.Clone(b[from:min(from+r.Intn(30), len(b))])...)
			}
		}
		loads(t, b)
	}
	for range 20000 {
		b := make([]byte, r.Intn(24))
		for i := range b {
			b[i] = []byte{0, 1, 2, 3, 5, 6, 255}[r.Intn(7)]
		}
		loads(t, b)
	}
}

// written returns the bytes of an index by position 1 that has these items, be they a set or not: each is written as if it were alone.
func written(t *testing.T, l ...api.Item) []byte {
	t.Helper()
	none := by(t, []int{1}).Save()
	b := slices.Clone(none)
	for _, item := range l {
		b = append(b, by(t, []int{1}, item).Save()[len(none):]...)
	}
	return b
}

func TestP122LoadOfRowsThatMakeNoIndex(t *testing.T) {
	if b := written(t, rowsOf(1, 2, 3)...); !bytes.Equal(b, by(t, []int{1}, rowsOf(1, 2, 3)...).Save()) {
		t.Fatalf("%x", b)
	}
	refused(t, written(t, it(1, 2, 5), it(1, 1, 5)))
	refused(t, written(t, it(1, 1, 5), it(1, 1, 5)))
	refused(t, written(t, it(1, 1, 5), it(-1, 1, 5)))
	refused(t, written(t, it(1, 1, 5), it(1, 3, 6), it(1, 2, 5)))
	// Nets of nothing and beyond the greatest
	for _, net := range [][]byte{{0, 0, 0, 0, 0, 0, 0, 0}, {1, 0, 0, 0, 0, 0, 4, 0}, {255, 255, 255, 255, 255, 255, 251, 255}, {0, 0, 0, 0, 0, 0, 0, 128}, {1, 0, 0, 0, 0, 0, 0, 128}, {255, 255, 255, 255, 255, 255, 255, 127}, {0, 0, 0, 0, 0, 0, 32, 0}} {
		b := written(t, it(1, 1, 5))
		copy(b[len(b)-8:], net)
		refused(t, b)
	}
	// a row that is too short for the positions
	b := written(t, it(1, 1, 5))
	short := by(t, []int{0}, it(1, 1)).Save()
	refused(t, slices.Concat(by(t, []int{1}).Save(), short[len(by(t, []int{0}).Save()):]))
	refused(t, slices.Concat(by(t, []int{1}).Save(), short[len(by(t, []int{0}).Save()):], b[len(by(t, []int{1}).Save()):]))
}
