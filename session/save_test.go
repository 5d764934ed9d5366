package session_test

import (
	"bytes"
	"math"
	"math/rand"
	"slices"
	"testing"

	"confluence/api"
	"confluence/session"
	"confluence/wire"
)

// loaded returns the table that x is when it is saved and loaded.
func (x table) loaded() table {
	x.t.Helper()
	before := x.state()
	b := x.session.Save()
	s, why := session.Load(b)
	if why != api.OK || s == nil {
		x.t.Fatalf("P17.2: Load of Save of %s: %v, %s", x.brief(), s, showErr(why))
	}
	y := table{x.t, s}
	if y.state() != before || x.state() != before {
		x.t.Fatalf("P17.2: %s is loaded as %s", x.brief(), y.brief())
	}
	if !bytes.Equal(s.Save(), b) || !bytes.Equal(x.session.Save(), b) {
		x.t.Errorf("P17.2: %s is saved in several ways", x.brief())
	}
	return y
}

// all returns a table with requests of every client.
func all(t *testing.T) table {
	t.Helper()
	x := start(t)
	for client := range api.MaxClients {
		x.done(client, 1+client*client*1000, reply(client), "OK")
	}
	return x
}

// some are tables of several sizes.
func some(t *testing.T) []table {
	t.Helper()
	first, last, mixed, edges := start(t), start(t), start(t), start(t)
	first.done(0, 1, api.Reply{}, "OK")
	last.done(api.MaxClients-1, greatest, api.Reply{Why: api.ErrUsed, At: 3, Name: "v"}, "OK")
	mixed.done(3, 7, api.Reply{At: -1, Name: "\x00\xff"}, "OK")
	mixed.done(8, 256, api.Reply{Why: -3, Name: long(api.MaxName)}, "OK")
	mixed.done(12, 65536, api.Reply{Why: api.ErrOver, At: 1 << 40, Name: long(300)}, "OK")
	edges.done(0, 1, api.Reply{Why: math.MinInt, At: math.MaxInt}, "OK")
	edges.done(1, greatest-1, api.Reply{Why: math.MaxInt, At: math.MinInt, Name: "\x00"}, "OK")
	return []table{start(t), first, last, mixed, edges, all(t)}
}

func TestP172SavedAndLoaded(t *testing.T) {
	for _, x := range some(t) {
		x.loaded().loaded()
	}
	x := start(t).loaded()
	for client := range api.MaxClients {
		x.last(client, 0)
		x.asks(client, 1, "Fresh")
		x.asks(client, greatest, "Fresh")
		x.asks(client, 0, "none")
	}
	x = all(t).loaded()
	for client := range api.MaxClients {
		n := 1 + client*client*1000
		x.last(client, n)
		x.again(client, n, reply(client))
		x.asks(client, n+1, "Fresh")
		x.done(client, n, reply(1), "ErrArg")
		x.done(client, n+1, reply(88), "OK")
		x.asks(client, n, "Past")
		x.again(client, n+1, reply(88))
	}
}

func TestP172EveryReplyIsLoaded(t *testing.T) {
	x := start(t)
	for i, r := range replies() {
		client := i % api.MaxClients
		x.done(client, 1+i, r, "OK")
		x.loaded().again(client, 1+i, r)
	}
	for i, r := range veryLong() {
		x := start(t)
		x.done(i%api.MaxClients, 1, r, "OK")
		x.done((i+1)%api.MaxClients, 2, reply(2), "OK")
		y := x.loaded()
		y.again(i%api.MaxClients, 1, r)
		y.again((i+1)%api.MaxClients, 2, reply(2))
	}
}

// TestP172NamesOfEveryLength has two names beside each other, so that neither takes from the other.
func TestP172NamesOfEveryLength(t *testing.T) {
	for n := range 300 {
		x := start(t)
		one, two := api.Reply{Name: long(n)}, api.Reply{At: n, Name: long(299 - n)}
		x.done(4, 1, one, "OK")
		x.done(5, 2, two, "OK")
		y := x.loaded()
		y.again(4, 1, one)
		y.again(5, 2, two)
	}
}

func TestP172ManyGreatNames(t *testing.T) {
	x := start(t)
	for client := range api.MaxClients {
		x.done(client, greatest, api.Reply{Why: api.Errno(client), At: client, Name: long(1<<19 + client)}, "OK")
	}
	x.loaded()
}

func TestP172SavedAndLoadedGoTheirOwnWays(t *testing.T) {
	x := all(t)
	before, b := x.state(), x.session.Save()
	y, z := x.loaded(), x.loaded()
	for client := range api.MaxClients {
		y.done(client, 1000000+client, reply(50), "OK")
	}
	if x.state() != before || z.state() != before || !bytes.Equal(x.session.Save(), b) || !bytes.Equal(z.session.Save(), b) {
		t.Fatalf("P17.2: a loaded table turned another one: %s, %s", x.brief(), z.brief())
	}
	was := y.state()
	for client := range api.MaxClients {
		x.done(client, 2000000+client, reply(60), "OK")
	}
	if y.state() != was || z.state() != before {
		t.Fatalf("P17.2: a saved table turned a loaded one: %s, %s", y.brief(), z.brief())
	}
	x.again(3, 2000003, reply(60))
	y.again(3, 1000003, reply(50))
	z.again(3, 9001, reply(3))
	x.loaded()
	y.loaded()
	z.loaded()
}

// TestP172SameTableReachedInOtherWays has the same bytes: engine promises as much of whole databases.
func TestP172SameTableReachedInOtherWays(t *testing.T) {
	direct, around := start(t), start(t)
	direct.done(2, 9, reply(9), "OK")
	direct.done(15, 1, api.Reply{}, "OK")
	direct.done(0, 4, reply(4), "OK")
	around.done(0, 1, reply(1), "OK")
	around.done(2, 3, api.Reply{Name: long(1000)}, "OK")
	around.done(0, 1, reply(5), "ErrArg")
	around.done(16, 1, reply(5), "ErrArg")
	around.done(0, 4, reply(4), "OK")
	around = around.loaded()
	around.asks(7, 4, "Fresh")
	around.done(7, 0, reply(5), "ErrArg")
	around.done(2, 8, reply(8), "OK")
	around.done(15, 1, api.Reply{}, "OK")
	around.done(2, 9, reply(9), "OK")
	around.done(2, 4, reply(5), "ErrArg")
	refused := start(t)
	refused.done(3, 0, reply(5), "ErrArg")
	refused.done(-1, 5, reply(5), "ErrArg")
	for _, x := range [][2]table{{direct, around}, {direct.loaded(), around.loaded()}, {start(t), refused}, {start(t).loaded(), refused.loaded()}} {
		if x[0].state() != x[1].state() || !bytes.Equal(x[0].session.Save(), x[1].session.Save()) {
			t.Errorf("P17.2: %s, not %s", x[1].brief(), x[0].brief())
		}
	}
}

// TestP172OtherTablesHaveOtherBytes, since each is recovered from its own.
func TestP172OtherTablesHaveOtherBytes(t *testing.T) {
	seen := map[string]string{}
	add := func(x table) {
		b, state := string(x.session.Save()), x.state()
		if was, ok := seen[b]; ok && was != state {
			t.Errorf("P17.2: %s is saved as another table", x.brief())
		}
		seen[b] = state
	}
	for _, x := range some(t) {
		add(x)
	}
	for client := range api.MaxClients {
		for _, seq := range []int{1, 2, 256, 65536, 1 << 24, greatest} {
			for _, r := range []api.Reply{{}, {Why: 1}, {At: 1}, {Why: 256}, {At: 256}, {Name: "\x00"}, {Name: "\x01"}, {Name: "\x00\x00"}, {Why: 1 << 32}, {At: 1 << 32}, {Why: -1}, {At: -1}} {
				x := start(t)
				x.done(client, seq, r, "OK")
				add(x)
			}
		}
	}
	if n := 6 + api.MaxClients*6*12 - 1; len(seen) != n {
		t.Errorf("P17.2: %d tables have %d ways to be saved", n, len(seen))
	}
}

// notLoaded checks that Load answers nothing.
func notLoaded(t *testing.T, b []byte) {
	t.Helper()
	if s, why := session.Load(b); s != nil || why != api.ErrForm {
		t.Errorf("P17.2: Load of %d bytes %.99q: %v, %s", len(b), b, s, showErr(why))
	}
}

// loads checks that Load answers a table that there can be and of which b is the result of Save, or nothing, and returns whether it is one.
func loads(t *testing.T, b []byte) bool {
	t.Helper()
	s, why := session.Load(b)
	if why != api.OK {
		notLoaded(t, b)
		return false
	}
	if s == nil || !bytes.Equal(s.Save(), b) {
		t.Fatalf("P17.2: Load of %d bytes %.99q: %v", len(b), b, s)
	}
	// There is a table as this one that was made call by call.
	x, y := table{t, s}, start(t)
	for client := range api.MaxClients {
		if n := s.Last(client); n > 0 {
			_, r := s.Ask(client, n)
			y.done(client, n, r, "OK")
		}
	}
	if x.state() != y.state() || !bytes.Equal(y.session.Save(), b) {
		t.Fatalf("P17.2: Load of %d bytes %.99q: %s, not %s", len(b), b, x.brief(), y.brief())
	}
	return true
}

func TestP172LoadOfNoBytes(t *testing.T) {
	loads(t, nil)
	loads(t, []byte{})
	loads(t, make([]byte, 0, 20))
	if len(start(t).session.Save()) > 0 {
		notLoaded(t, nil)
		notLoaded(t, []byte{})
	}
}

func TestP172LoadOfBytesCutShort(t *testing.T) {
	for _, x := range some(t) {
		b := x.session.Save()
		for n := range b {
			notLoaded(t, b[:n])
			loads(t, b[n:])
		}
	}
	x := start(t)
	x.done(15, 1, api.Reply{Name: long(2<<16 - 2)}, "OK")
	b := x.session.Save()
	for n := 1; n < len(b); n += 1 + n/2 {
		notLoaded(t, b[:len(b)-n])
		notLoaded(t, b[:n])
	}
}

func TestP172LoadOfBytesWithMoreBehind(t *testing.T) {
	for _, x := range some(t) {
		b := x.session.Save()
		for more := range 256 {
			notLoaded(t, append(slices.Clone(b), byte(more)))
		}
		notLoaded(t, append(slices.Clone(b), 0, 0))
		notLoaded(t, append(slices.Clone(b), b...))
		notLoaded(t, append(slices.Clone(b), make([]byte, 1000)...))
		loads(t, append([]byte{0}, b...))
		loads(t, append(slices.Clone(b), b...)[len(b)/2:])
	}
}

func TestP172LoadOfBytesThatAreChanged(t *testing.T) {
	good, bad := 0, 0
	for _, x := range some(t) {
		b := x.session.Save()
		for at := range b {
			for _, change := range []byte{1, 2, 3, 4, 8, 16, 32, 64, 127, 128, 255} {
				turned := slices.Clone(b)
				turned[at] ^= change
				if loads(t, turned) {
					good++
				} else {
					bad++
				}
			}
		}
	}
	if good == 0 || bad == 0 {
		t.Errorf("P17.2: of changed bytes, %d are loaded and %d not", good, bad)
	}
}

func TestP172LoadOfOtherBytes(t *testing.T) {
	r := rand.New(rand.NewSource(172))
	from := some(t)
	for range 3000 {
		b := from[r.Intn(len(from))].session.Save()
		for range 1 + r.Intn(3) {
			at := r.Intn(len(b) + 1)
			switch r.Intn(3) {
			case 0:
				b = slices.Insert(b, at, byte(r.Intn(256)))
			case 1:
				b = slices.Delete(b, at, min(at+1+r.Intn(30), len(b)))
			default:
				first := r.Intn(len(b) + 1)
				b = slices.Insert(b, at, slices.Clone(b[first:min(first+r.Intn(30), len(b))])...)
			}
		}
		loads(t, b)
		b = make([]byte, r.Intn(500))
		for i := range b {
			b[i] = []byte{0, 0, 0, 0, 1, 2, 255}[r.Intn(7)]
		}
		loads(t, b)
	}
	for n := range 600 {
		loads(t, make([]byte, n))
		loads(t, bytes.Repeat([]byte{1}, n))
	}
	loads(t, bytes.Repeat([]byte{255}, 1<<20))
	loads(t, make([]byte, 1<<20))
	loads(t, bytes.Repeat([]byte{1, 0}, 1<<19))
}

// saved is what a test writes for one client.
type saved struct {
	seq, why, at int64
	pieces       []string
}

// written returns the bytes of a table of these clients, be it one that there can be or not.
func written(l []saved) []byte {
	w := wire.NewWriter()
	for _, x := range l {
		w.Long(x.seq)
		w.Long(x.why)
		w.Long(x.at)
		for _, s := range x.pieces {
			w.Text(s)
		}
	}
	return w.Done()
}

// clients returns what is written for a table where client n has done x and no other client has done anything.
func clients(n int, x saved) []saved {
	var l []saved
	for range api.MaxClients {
		l = append(l, saved{pieces: []string{""}})
	}
	l[n] = x
	return l
}

// TestP172LoadOfWhatNoTableHas loads bytes that have the form of Save, with requests that no table has. That the form is the one of Save is asked first.
func TestP172LoadOfWhatNoTableHas(t *testing.T) {
	full := long(1<<16 - 1)
	for n := range api.MaxClients {
		if !bytes.Equal(written(clients(n, saved{pieces: []string{""}})), start(t).session.Save()) {
			t.Fatal("a new table is saved in another form")
		}
		for _, good := range []saved{
			{1, 0, 0, []string{""}},
			{greatest, -1, math.MaxInt64, []string{"a"}},
			{7, math.MinInt64, -1, []string{full, ""}},
			{7, 1, 1, []string{full, full, "a"}},
		} {
			if b := written(clients(n, good)); !loads(t, b) {
				t.Errorf("P17.2: Load of %d with %d pieces: nothing", good.seq, len(good.pieces))
			}
		}
		for _, bad := range []saved{
			{0, 1, 0, []string{""}},
			{0, 0, 1, []string{""}},
			{0, 0, 0, []string{"a"}},
			{0, -1, -1, []string{full, ""}},
			{-1, 0, 0, []string{""}},
			{-1, 1, 2, []string{"v"}},
			{greatest + 1, 0, 0, []string{""}},
			{greatest + 1, 1, 2, []string{"v"}},
			{1 << 32, 0, 0, []string{""}},
			{1<<32 + 1, 0, 0, []string{""}},
			{math.MinInt64, 0, 0, []string{""}},
			{math.MaxInt64, 0, 0, []string{""}},
			{1, 0, 0, []string{"a", ""}},
			{1, 0, 0, []string{"a", "a"}},
			{1, 0, 0, []string{full}},
			{1, 0, 0, []string{full, full}},
			{1, 0, 0, nil},
		} {
			notLoaded(t, written(clients(n, bad)))
		}
	}
	l := clients(3, saved{5, 0, 0, []string{"a"}})
	for n := range l {
		notLoaded(t, written(l[:n]))
	}
	notLoaded(t, written(append(l, l[0])))
	notLoaded(t, written(append(l, l[3])))
}
