package flow_test

import (
	"bytes"
	"math/rand"
	"slices"
	"strings"
	"testing"

	"confluence/api"
	"confluence/check"
	"confluence/flow"
	"confluence/plan"
	"confluence/zset"
)

// alike checks that two flows have the same result and columns, and go on in the same way.
func alike(t *testing.T, s string, f, g *flow.Flow) {
	t.Helper()
	if show(f.Rows()) != show(g.Rows()) || !slices.Equal(f.Cols(), g.Cols()) || !bytes.Equal(f.Save(), g.Save()) {
		t.Fatalf("P14.3: %s: %s, %v, %x, not %s, %v, %x", s, cut(show(g.Rows())), g.Cols(), g.Save(), cut(show(f.Rows())), f.Cols(), f.Save())
	}
	for _, x := range []string{
		"t: 1 'x' *-1", "t: 1 'x'; 2 'y' *2", "u: 1 1; 1 2 *-1", "w: 1; 2", "t: 1 'x' | w: 2 *-1 | u: 2 1", "t: 9 'q' *512", "w: 9", "t: 1 'x' *-2; 3 'x' *-1", "t: 2 'y' *-2; 9 'q'", "u: 1 1 *-1; 7 7", "t: 'x' 1",
	} {
		a, why := f.Step(deltas(x))
		b, errno := g.Step(deltas(x))
		if errno != why || told(a, why) != told(b, errno) || show(f.Rows()) != show(g.Rows()) || !bytes.Equal(f.Save(), g.Save()) {
			t.Fatalf("P14.3: %s: Step of %s: %s, not %s", s, x, cut(told(b, errno)), cut(told(a, why)))
		}
	}
}

// many are Deltas of many rows that no form of common tables has too many of.
const many = "t: -9223372036854775808 ''; -1 'x' *3; 0 'y'; 1 'x' *2; 1 'y'; 2 'x'; 3 'z' *4; 5 'zz' | u: 1 2 *2; 2 1; 2 2; 3 1; 9 9 | w: 1 *2; 2; 3 *5; 7"

func TestP143SavedAndLoaded(t *testing.T) {
	for _, s := range forms {
		for _, all := range []string{"", "t: 1 'x'", "u: 1 2; 2 1", "w: 1", many, many + " | t: 1 'x' *-2; 3 'z' *-4 | w: 3 *-5"} {
			v := start(t, s, common)
			if _, why := v.take(deltas(all)); why != api.OK && why != api.ErrOver {
				t.Fatalf("%s: Step of %s: %s", s, all, showErr(why))
			}
			x := v.loaded()
			x.holds()
			alike(t, s, v.flow, x.flow)
			alike(t, s, v.loaded().flow, v.flow)
		}
	}
}

// TestP143SavedAndLoadedWhole has tables of as many rows as may be, of the most bytes.
func TestP143SavedAndLoadedWhole(t *testing.T) {
	var all api.Set
	for i := range int64(api.MaxOut) {
		all = append(all, api.Item{Row: api.Row{num(i), str(longest), str(longest), str(longest), str(longest), str("\x00\xff" + longest[2:])}, T: 1})
	}
	for _, s := range []string{"(table s)", "(distinct (table s))", "(union (filter (lt a 0) (table s)) (table r))", "(group (a) (n count) (m max f) (table s))"} {
		v := start(t, s, "s: a Int, b Text, c Text, d Text, e Text, f Text; r: a Int, b Text, c Text, d Text, e Text, f Text")
		v.take([]flow.Delta{{Name: "s", Rows: all}, {Name: "r", Rows: all[5:]}})
		x := v.loaded()
		x.holds()
		x.take([]flow.Delta{{Name: "s", Rows: zset.Flip(all)}, {Name: "r", Rows: zset.Flip(all[5:])}})
		x.has("")
		x.loaded().take([]flow.Delta{{Name: "s", Rows: all}})
		v.take([]flow.Delta{{Name: "s", Rows: zset.Flip(all[:3])}})
		v.loaded().take([]flow.Delta{{Name: "s", Rows: all[:3]}})
	}
	v := start(t, "(table w)", common)
	for _, n := range []string{"1", "2", "255", "256", "511", "512"} {
		v.step("w: 5 *"+n, strings.TrimSuffix("5 *"+n, " *1"))
		v.loaded().step("w: 5 *-"+n, "5 *-"+n)
		v.step("w: 5 *-"+n, "5 *-"+n)
	}
}

func TestP143SavedAndLoadedGoTheirOwnWays(t *testing.T) {
	for _, s := range forms {
		v := start(t, s, common)
		v.take(deltas(many + " | t: -9223372036854775808 '' *-1"))
		b := v.flow.Save()
		x := v.loaded()
		x.take(deltas("t: 1 'x'; 3 'z' *-4; 8 'a' | u: 1 2 *-2 | w: 1 *-2; 8"))
		v.holds()
		if !bytes.Equal(v.flow.Save(), b) {
			t.Errorf("P14.3: %s: a loaded flow turned the saved one", s)
		}
		y := v.loaded()
		v.take(deltas("t: 2 'x' *-1; 0 'y' | u: 9 9 | w: 7 *-1"))
		x.holds()
		y.holds()
		z := x.loaded()
		y.take(deltas("t: 1 'y' *-1; 2 'b' *3 | u: 1 1 *3 | w: 2 *3"))
		for _, each := range []*view{v, x, y, z} {
			each.holds()
			each.take(deltas("t: 1 'x' *-1; 4 'c' | u: 2 1 *-1 | w: 3 *-2"))
			each.loaded().holds()
		}
	}
}

// TestP143SameTablesReachedInOtherWays has flows that came to the same tables go on in the same way.
func TestP143SameTablesReachedInOtherWays(t *testing.T) {
	for _, s := range forms {
		direct, slowly, around := start(t, s, common), start(t, s, common), start(t, s, common)
		direct.take(deltas("t: 1 'x' *2; 2 'y' | u: 1 2; 2 1 | w: 1 *2"))
		for _, x := range []string{"w: 1", "t: 2 'y' *3", "u: 3 3; 2 1", "t: 1 'x'", "t: 2 'y' *-2; 1 'x' *2", "u: 3 3 *-1 | w: 5", "u: 1 2", "w: 5 *-1 | t: 1 'x' *-1 | w: 1"} {
			slowly.take(deltas(x))
		}
		around.take(deltas("t: 7 'z'; 8 'z' | u: 7 7; 7 8 | w: 7 *9"))
		around.take(deltas("t: 7 'z' *-1; 8 'z' *-1 | u: 7 7 *-1; 7 8 *-1 | w: 7 *-9"))
		around.has("")
		alike(t, s, start(t, s, common).flow, around.loaded().flow)
		for _, x := range []string{"t: 1 'x' *513 | u: 1 1 *513 | w: 1 *513", "t: 1 | u: 1 | w: 1 1", "t: 1 'x' *-1 | u: 2 1 *-1 | w: 1 *-1"} {
			if _, why := around.take(deltas(x)); why == api.OK {
				t.Errorf("P14.2: %s: Step of %s: no error", s, x)
			}
		}
		around.take(deltas("w: 1 *2 | u: 2 1; 1 2 | t: 2 'y'; 1 'x' *2"))
		for _, other := range []*view{slowly, around, direct.loaded(), slowly.loaded().loaded()} {
			alike(t, s, direct.loaded().flow, other.flow)
		}
	}
}

// notLoaded checks that Load answers nothing.
func notLoaded(t *testing.T, p api.Plan, l []check.Def, b []byte) {
	t.Helper()
	if f, why := flow.Load(p, l, b); f != nil || why != api.ErrForm {
		t.Errorf("P14.3: Load of %s, %s: %v, %s", plan.Print(p), cut(hex(b)), f, showErr(why))
	}
}

func hex(b []byte) string {
	var s strings.Builder
	for _, x := range b {
		s.WriteByte("0123456789abcdef"[x>>4])
		s.WriteByte("0123456789abcdef"[x&15])
	}
	return s.String()
}

// loads checks that Load answers a flow of which b is the result of Save, or nothing, and returns whether it is one.
func loads(t *testing.T, p api.Plan, l []check.Def, b []byte) bool {
	t.Helper()
	f, why := flow.Load(p, l, b)
	if why != api.OK {
		notLoaded(t, p, l, b)
		return false
	}
	if f == nil || !bytes.Equal(f.Save(), b) || !zset.Plain(f.Rows()) {
		t.Fatalf("P14.3: Load of %s, %s: a flow that is saved as %s", plan.Print(p), cut(hex(b)), cut(hex(f.Save())))
	}
	return true
}

// saved is a flow's plan, definitions and bytes.
type saved struct {
	plan  api.Plan
	defs  []check.Def
	bytes []byte
}

// savedOnes are results of Save.
func savedOnes(t *testing.T) []saved {
	t.Helper()
	var all []saved
	for _, s := range []string{"(table w)", "(table t)", "(filter (add a 1) (table t))", "(join (a) (c) (table t) (table u))", "(union (project (x c) (table u)) (distinct (table w)))", "(group (b) (s sum a) (table t))"} {
		for _, x := range []string{"", "t: 1 'x' | u: 1 2 | w: 5", "t: -1 'x' *2; 5 '\\' *300; 7 'abc' | u: 1 1; 5 5 | w: 0; 1 *200"} {
			v := start(t, s, common)
			if _, why := v.take(deltas(x)); why != api.OK {
				t.Fatalf("%s: Step of %s: %s", s, x, showErr(why))
			}
			all = append(all, saved{v.slow.plan, v.defs, v.flow.Save()})
		}
	}
	return all
}

func TestP143LoadOfNoBytes(t *testing.T) {
	for _, x := range savedOnes(t) {
		notLoaded(t, x.plan, x.defs, nil)
		notLoaded(t, x.plan, x.defs, []byte{})
		notLoaded(t, x.plan, x.defs, make([]byte, 0, 20))
	}
}

func TestP143LoadOfBytesCutShort(t *testing.T) {
	for _, x := range savedOnes(t) {
		for n := range x.bytes {
			notLoaded(t, x.plan, x.defs, x.bytes[:n])
			loads(t, x.plan, x.defs, x.bytes[n:])
		}
	}
}

func TestP143LoadOfBytesWithMoreBehind(t *testing.T) {
	for _, x := range savedOnes(t) {
		for more := range 256 {
			notLoaded(t, x.plan, x.defs, append(slices.Clone(x.bytes), byte(more)))
		}
		notLoaded(t, x.plan, x.defs, append(slices.Clone(x.bytes), 0, 0))
		notLoaded(t, x.plan, x.defs, append(slices.Clone(x.bytes), x.bytes...))
	}
}

func TestP143LoadOfBytesThatAreChanged(t *testing.T) {
	good := 0
	for _, x := range savedOnes(t) {
		for at := range x.bytes {
			for _, change := range []byte{1, 2, 3, 4, 8, 15, 16, 32, 64, 127, 128, 255} {
				turned := slices.Clone(x.bytes)
				turned[at] ^= change
				if loads(t, x.plan, x.defs, turned) {
					good++
				}
			}
		}
	}
	if good == 0 {
		t.Error("no change made another flow")
	}
}

func TestP143LoadOfOtherBytes(t *testing.T) {
	r := rand.New(rand.NewSource(143))
	all := savedOnes(t)
	for range 4000 {
		x := all[r.Intn(len(all))]
		b := slices.Clone(x.bytes)
		for range 1 + r.Intn(3) {
			at := r.Intn(len(b) + 1)
			switch r.Intn(3) {
			case 0:
				b = slices.Insert(b, at, byte(r.Intn(256)))
			case 1:
				b = slices.Delete(b, at, min(at+1+r.Intn(12), len(b)))
			default:
				from := r.Intn(len(b) + 1)
				b = slices.Insert(b, at, slices.Clone(b[from:min(from+r.Intn(30), len(b))])...)
			}
		}
		loads(t, x.plan, x.defs, b)
		b = make([]byte, r.Intn(24))
		for i := range b {
			b[i] = []byte{0, 1, 2, 3, 5, 6, 255}[r.Intn(7)]
		}
		loads(t, x.plan, x.defs, b)
	}
}

// TestP143LoadOfOtherFlows loads what flows of other plans and definitions have saved.
func TestP143LoadOfOtherFlows(t *testing.T) {
	all := savedOnes(t)
	for _, x := range all {
		for _, y := range all {
			loads(t, x.plan, x.defs, y.bytes)
		}
		for _, d := range []string{"t: a Text, b Int; u: c Text, d Text; w: e Text", "w: e Int, f Int; u: c Int; t: a Int", "t: a Int, b Text, c Int; u: c Int, d Int, e Int; w: e Int, f Int"} {
			other := defs(d)
			if _, why, _ := check.Out(x.plan, other); why == api.OK {
				// The bytes of flows without rows may be the same.
				if got := loads(t, x.plan, other, x.bytes); got && slices.ContainsFunc(x.bytes, func(b byte) bool { return b != 0 }) {
					t.Errorf("P14.3: Load of %s: rows that fit %s are taken for those of %s", plan.Print(x.plan), common, d)
				}
			}
		}
		// Tables that the plan does not use, and the order of all, are nothing to a flow.
		l := append(defs("a: z Int"), x.defs[2], x.defs[0], x.defs[1], def("zz: a Int"))
		if !loads(t, x.plan, l, x.bytes) {
			t.Errorf("P14.3: Load of %s with more definitions in another order", plan.Print(x.plan))
		}
	}
}

// written returns the bytes of a flow that has these rows of one table, be they such that it can have them or not.
func written(t *testing.T, s api.Set) []byte {
	t.Helper()
	b := zset.Encode(s)
	if b == nil {
		t.Fatalf("no bytes of %s", show(s))
	}
	return b
}

// TestP143LoadOfRowsThatMakeNoFlow loads bytes that have the form of a flow's, with rows that no flow has. That the form is the one of Save is asked first.
func TestP143LoadOfRowsThatMakeNoFlow(t *testing.T) {
	l := defs(common)
	for s, bad := range map[string][]string{
		"(table t)":                                                {"1 'x' *-1", "1 'x'; 2 'x' *-1", "1 'x' *513", "1 'x' *512; 2 'x'", "1 'x' *1125899906842624", "1", "'x'", "1 1", "1 'x' 1", "1 'x'; 1 'x' 1", "'x' 'x'"},
		"(filter (add a 1) (table t))":                             {"9223372036854775807 'x'", "1 'x'; 9223372036854775807 'x'", "1 'x' *-1"},
		"(group (b) (s sum a) (table t))":                          {"4611686018427387904 'x' *2", "1 'x'; 9223372036854775807 'x'"},
		"(union (table t) (table t))":                              {"1 'x' *257", "1 'x' *200; 2 'x' *57"},
		"(project (x (cat b b)) (table t))":                        {"1 '" + longest[19:] + "'"},
		"(join (a) (x) (table t) (project (x a) (y b) (table t)))": {"1 'x' *23", "1 'x' *12; 1 'y' *11"},
	} {
		p := read(t, s)
		for _, good := range []string{"1 'x'", "-5 'x' *3; 2 ''"} {
			v := start(t, s, common)
			v.take([]flow.Delta{{Name: "t", Rows: items(good)}})
			if b := written(t, items(good)); !bytes.Equal(v.flow.Save(), b) {
				t.Fatalf("%s is saved as %x, not %x", s, v.flow.Save(), b)
			}
		}
		for _, x := range bad {
			notLoaded(t, p, l, written(t, items(x)))
		}
	}
	p := read(t, "(table w)")
	for _, net := range [][]byte{{0, 0, 0, 0, 0, 0, 0, 0}, {255, 255, 255, 255, 255, 255, 255, 255}, {1, 2, 0, 0, 0, 0, 0, 0}, {0, 0, 0, 0, 0, 0, 0, 128}, {1, 0, 0, 0, 0, 0, 0, 128}, {1, 0, 0, 0, 0, 0, 32, 0}, {255, 255, 255, 255, 255, 255, 255, 127}} {
		b := written(t, items("5"))
		copy(b[len(b)-8:], net)
		notLoaded(t, p, l, b)
	}
	// Rows that are not in order, one that comes twice, and numbers of rows that are not those.
	b := written(t, items("5; 6"))
	half := (len(b) - 2) / 2
	notLoaded(t, p, l, slices.Concat(b[:2], b[2+half:], b[2:2+half]))
	notLoaded(t, p, l, slices.Concat(b[:2+half], b[2:2+half]))
	for n := range 256 {
		if n != 2 {
			notLoaded(t, p, l, slices.Concat([]byte{byte(n), 0}, b[2:]))
		}
		notLoaded(t, p, l, slices.Concat([]byte{2, byte(n | 1)}, b[2:]))
	}
}
