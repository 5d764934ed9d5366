package session_test

import (
	"fmt"
	"math"
	"strings"
	"testing"

	"confluence/api"
	"confluence/session"
)

// greatest is the greatest seq.
const greatest = 1 << 30

// table is a Table together with the test that asks it.
type table struct {
	t       *testing.T
	session *session.Table
}

// start returns a new table.
func start(t *testing.T) table {
	t.Helper()
	s := session.New()
	if s == nil {
		t.Fatal("P17.1: New: nil")
	}
	return table{t, s}
}

// reply returns a Reply that isn't like that of another n.
func reply(n int) api.Reply {
	return api.Reply{Why: api.Errno(n), At: -n, Name: fmt.Sprint("n", n)}
}

// replies are of every kind.
func replies() []api.Reply {
	l := []api.Reply{{}, {Name: ""}, {Why: api.OK, At: 1, Name: "a"}}
	for _, why := range []api.Errno{api.ErrArg, api.ErrLong, api.ErrForm, api.ErrName, api.ErrOver, api.ErrNone, -1, 30, 255, 256, 1 << 16, math.MinInt, math.MaxInt, math.MaxInt32, math.MinInt32 - 1, 1<<32 + 20} {
		l = append(l, api.Reply{Why: why}, api.Reply{Why: why, At: 7, Name: "v"})
	}
	for _, at := range []int{1, -1, 255, 256, 600, 1 << 16, math.MaxInt32, math.MaxInt32 + 1, math.MinInt32 - 1, math.MinInt, math.MaxInt} {
		l = append(l, api.Reply{At: at}, api.Reply{Why: api.ErrOver, At: at, Name: "v"})
	}
	for c := range 256 {
		l = append(l, api.Reply{Name: string([]byte{byte(c)})}, api.Reply{Why: api.Errno(c), At: c, Name: string([]byte{'a', byte(c), 0})})
	}
	for _, n := range []int{2, api.MaxName, api.MaxName + 1, api.MaxText, 255, 256, 10000} {
		l = append(l, api.Reply{Why: api.ErrUsed, Name: long(n)})
	}
	return l
}

// veryLong are Replies with Names beyond what one text of wire can have.
func veryLong() []api.Reply {
	var l []api.Reply
	for _, n := range []int{1<<16 - 2, 1<<16 - 1, 1 << 16, 1<<16 + 1, 2<<16 - 3, 2<<16 - 2, 2<<16 - 1, 2 << 16, 3*(1<<16-1) + 5} {
		l = append(l, api.Reply{Why: api.ErrUsed, At: n, Name: long(n)}, api.Reply{Name: strings.Repeat("\x00", n)}, api.Reply{Name: strings.Repeat("\xff", n)})
	}
	return l
}

// long returns a name of n bytes of which no two parts are alike.
func long(n int) string {
	var b strings.Builder
	for i := 0; b.Len() < n; i++ {
		fmt.Fprint(&b, i, ",")
	}
	return b.String()[:n]
}

func showKind(n int) string {
	switch n {
	case 0:
		return "none"
	case session.Fresh:
		return "Fresh"
	case session.Again:
		return "Again"
	case session.Past:
		return "Past"
	}
	return fmt.Sprint("kind ", n)
}

func showErr(why api.Errno) string {
	switch why {
	case api.OK:
		return "OK"
	case api.ErrArg:
		return "ErrArg"
	case api.ErrForm:
		return "ErrForm"
	}
	return fmt.Sprint("error ", int(why))
}

func showReply(r api.Reply) string {
	name := r.Name
	if len(name) > 60 {
		name = fmt.Sprint(name[:60], ".. of ", len(name))
	}
	return fmt.Sprintf("{%d %d %q}", int(r.Why), r.At, name)
}

// asks checks that the request is of that kind; the Reply beside it is zero.
func (x table) asks(client, seq int, kind string) {
	x.t.Helper()
	k, r := x.session.Ask(client, seq)
	if showKind(k) != kind {
		x.t.Errorf("P17.1: Ask(%d, %d): %s, not %s", client, seq, showKind(k), kind)
	}
	if r != (api.Reply{}) {
		x.t.Errorf("P17.1, R3: Ask(%d, %d): %s with %s", client, seq, showKind(k), showReply(r))
	}
}

// again checks that the request is remembered with r.
func (x table) again(client, seq int, r api.Reply) {
	x.t.Helper()
	if k, got := x.session.Ask(client, seq); k != session.Again || got != r {
		x.t.Errorf("P17.1: Ask(%d, %d): %s, %s, not Again, %s", client, seq, showKind(k), showReply(got), showReply(r))
	}
}

// done checks what Done answers.
func (x table) done(client, seq int, r api.Reply, want string) {
	x.t.Helper()
	if why := x.session.Done(client, seq, r); showErr(why) != want {
		x.t.Errorf("P17.1: Done(%d, %d, %s): %s, not %s", client, seq, showReply(r), showErr(why), want)
	}
}

// last checks what Last answers.
func (x table) last(client, want int) {
	x.t.Helper()
	if n := x.session.Last(client); n != want {
		x.t.Errorf("P17.1: Last(%d): %d, not %d", client, n, want)
	}
}

// asked are the seqs that are of interest around n.
func asked(n int) []int {
	return []int{math.MinInt, math.MinInt32, -1, 0, 1, 2, n - 2, n - 1, n, n + 1, n + 2, n + 1000, greatest - 1, greatest, greatest + 1, math.MaxInt32, 1 << 32, 1<<32 + 1, 1<<32 + n, math.MaxInt}
}

// others are clients that there are not.
var others = []int{math.MinInt, math.MinInt32, -api.MaxClients, -2, -1, api.MaxClients, api.MaxClients + 1, 255, 256, 1 << 32, 1<<32 + 1, math.MaxInt}

// state tells all that a table answers, at least what is of interest.
func (x table) state() string {
	var b strings.Builder
	for client := range api.MaxClients {
		n := x.session.Last(client)
		fmt.Fprint(&b, client, ":", n)
		for _, seq := range asked(n) {
			k, r := x.session.Ask(client, seq)
			fmt.Fprint(&b, " ", k)
			if k == session.Again || r != (api.Reply{}) {
				fmt.Fprint(&b, int(r.Why), " ", r.At, " ", len(r.Name), r.Name)
			}
		}
		b.WriteString("\n")
	}
	for _, client := range others {
		k, r := x.session.Ask(client, 1)
		fmt.Fprint(&b, k, showReply(r), x.session.Last(client), " ")
	}
	return b.String()
}

// brief tells a table's last requests, for the text of an error.
func (x table) brief() string {
	var l []string
	for client := range api.MaxClients {
		if n := x.session.Last(client); n > 0 {
			_, r := x.session.Ask(client, n)
			l = append(l, fmt.Sprint(client, ": ", n, showReply(r)))
		}
	}
	return "[" + strings.Join(l, "; ") + "]"
}

func TestP171Kinds(t *testing.T) {
	if session.Fresh != 1 || session.Again != 2 || session.Past != 3 {
		t.Error("P17.1: Fresh, Again and Past are others")
	}
	var kind, again, past int = session.Fresh, session.Again, session.Past
	if kind == again || again == past || kind == past {
		t.Error("P17.1: Fresh, Again and Past are not apart")
	}
}

// TestP171Examples goes through the chapter's table.
func TestP171Examples(t *testing.T) {
	x := start(t)
	r := api.Reply{Why: api.ErrUsed, At: 3, Name: "v"}
	x.done(0, 1, r, "OK")
	x.again(0, 1, r)
	x.asks(0, 2, "Fresh")
	x.done(0, 5, r, "OK")
	x.asks(0, 2, "Past")
	x.asks(16, 1, "none")
	start(t).asks(16, 1, "none")
}

func TestP171NewTable(t *testing.T) {
	x := start(t)
	for client := range api.MaxClients {
		x.last(client, 0)
		for _, seq := range []int{1, 2, 3, 255, 256, 1 << 16, 1<<16 + 1, 1 << 29, greatest - 1, greatest} {
			x.asks(client, seq, "Fresh")
		}
		for _, seq := range []int{math.MinInt, -1 << 32, math.MinInt32, -2, -1, 0, greatest + 1, greatest + 2, math.MaxInt32, 1 << 32, 1<<32 + 1, math.MaxInt - 1, math.MaxInt} {
			x.asks(client, seq, "none")
		}
	}
	before := x.state()
	y := start(t)
	y.done(3, 4, reply(1), "OK")
	if x.state() != before || start(t).state() != before {
		t.Error("P17.1: a request of one table is done in another")
	}
}

func TestP171WhatIsNoRequest(t *testing.T) {
	empty, some := start(t), start(t)
	for client := range api.MaxClients {
		some.done(client, 1+client*3, reply(client), "OK")
	}
	for _, x := range []table{empty, some} {
		before := x.state()
		for _, client := range others {
			x.last(client, 0)
			for _, seq := range asked(1) {
				x.asks(client, seq, "none")
				x.done(client, seq, reply(77), "ErrArg")
				x.done(client, seq, api.Reply{}, "ErrArg")
			}
		}
		for client := range api.MaxClients {
			for _, seq := range []int{math.MinInt, math.MinInt32, -1, 0, greatest + 1, math.MaxInt32, 1 << 32, 1<<32 + 50, math.MaxInt} {
				x.asks(client, seq, "none")
				x.done(client, seq, reply(77), "ErrArg")
				x.done(client, seq, api.Reply{}, "ErrArg")
			}
		}
		if x.state() != before {
			t.Errorf("R3: what is no request was done: %s", x.brief())
		}
	}
}

func TestP171EdgesOfClientsAndSeqs(t *testing.T) {
	for _, client := range []int{0, 1, api.MaxClients - 2, api.MaxClients - 1} {
		x := start(t)
		x.done(client, 1, reply(1), "OK")
		x.last(client, 1)
		x.again(client, 1, reply(1))
		x.asks(client, 0, "none")
		x.asks(client, 2, "Fresh")
		x.asks(client, greatest, "Fresh")
		x.done(client, greatest-1, reply(2), "OK")
		x.last(client, greatest-1)
		x.asks(client, 1, "Past")
		x.asks(client, greatest-2, "Past")
		x.again(client, greatest-1, reply(2))
		x.asks(client, greatest, "Fresh")
		x.asks(client, greatest+1, "none")
		x.done(client, greatest+1, reply(3), "ErrArg")
		x.again(client, greatest-1, reply(2))
		x.done(client, greatest, reply(4), "OK")
		x.last(client, greatest)
		x.asks(client, greatest-1, "Past")
		x.again(client, greatest, reply(4))
		x.asks(client, greatest+1, "none")
		x.done(client, greatest+1, reply(5), "ErrArg")
		x.done(client, greatest, reply(5), "ErrArg")
		x.done(client, 1, reply(5), "ErrArg")
		x.again(client, greatest, reply(4))
	}
	x := start(t)
	x.done(5, greatest, reply(6), "OK")
	x.asks(5, 1, "Past")
	x.again(5, greatest, reply(6))
}

// TestP171AskAroundLast asks the last seq, those before it and those behind it.
func TestP171AskAroundLast(t *testing.T) {
	for _, n := range []int{1, 2, 3, 10, 255, 256, 65535, 65536, 1 << 29, greatest - 1, greatest} {
		x := start(t)
		x.done(9, n, reply(n), "OK")
		x.last(9, n)
		for _, seq := range asked(n) {
			switch {
			case seq < 1 || seq > greatest:
				x.asks(9, seq, "none")
			case seq < n:
				x.asks(9, seq, "Past")
			case seq == n:
				x.again(9, seq, reply(n))
			default:
				x.asks(9, seq, "Fresh")
			}
		}
		x.last(9, n)
	}
}

// TestP171AskChangesNothing asks twice.
func TestP171AskChangesNothing(t *testing.T) {
	x := start(t)
	x.done(2, 4, reply(1), "OK")
	was := x.state()
	for range 3 {
		x.asks(2, 9, "Fresh")
		x.again(2, 4, reply(1))
		x.asks(2, 3, "Past")
		x.asks(2, 0, "none")
		x.last(2, 4)
	}
	x.asks(2, 5, "Fresh")
	if x.state() != was {
		t.Errorf("P17.1: asking has made %s", x.brief())
	}
}

func TestP171DoneOfEachKind(t *testing.T) {
	for client := range api.MaxClients {
		x := start(t)
		x.done(client, 5, reply(5), "OK")
		was := x.state()
		for _, seq := range []int{5, 4, 3, 1, 0, -1, -5, greatest + 1, math.MinInt, math.MaxInt} {
			x.done(client, seq, reply(6), "ErrArg")
			x.done(client, seq, api.Reply{}, "ErrArg")
			x.done(client, seq, reply(5), "ErrArg")
			x.last(client, 5)
			x.again(client, 5, reply(5))
			if x.state() != was {
				t.Errorf("R3: Done(%d, %d) is refused, but makes %s", client, seq, x.brief())
			}
		}
		x.done(client, 6, reply(7), "OK")
		x.again(client, 6, reply(7))
		x.asks(client, 5, "Past")
		x.done(client, 5, reply(5), "ErrArg")
		x.again(client, 6, reply(7))
	}
}

// TestP171SeqsLeftOut are past as soon as a later one is done.
func TestP171SeqsLeftOut(t *testing.T) {
	x := start(t)
	x.done(1, 5, reply(5), "OK")
	x.asks(1, 2, "Past")
	x.again(1, 5, reply(5))
	x.asks(1, 6, "Fresh")
	x.done(1, 2, reply(2), "ErrArg")
	x.last(1, 5)
	x.done(1, 100, reply(100), "OK")
	x.asks(1, 5, "Past")
	x.asks(1, 6, "Past")
	x.asks(1, 99, "Past")
	x.again(1, 100, reply(100))
	x.asks(1, 101, "Fresh")
	x.asks(1, 1000, "Fresh")
	x.done(1, 99, reply(99), "ErrArg")
	x.last(1, 100)
}

func TestP171EachClientByItself(t *testing.T) {
	x := start(t)
	for client := range api.MaxClients {
		x.done(client, 100-client*5, reply(client), "OK")
		for c := range api.MaxClients {
			if c > client {
				x.last(c, 0)
				x.asks(c, 1, "Fresh")
				continue
			}
			n := 100 - c*5
			x.last(c, n)
			x.asks(c, n-1, "Past")
			x.again(c, n, reply(c))
			x.asks(c, n+1, "Fresh")
		}
	}
	x.done(7, 66, reply(1000), "OK")
	for client := range api.MaxClients {
		if client == 7 {
			x.again(client, 66, reply(1000))
		} else {
			x.again(client, 100-client*5, reply(client))
		}
	}
}

// TestP171Replies has the Reply that was handed in be the one that is remembered.
func TestP171Replies(t *testing.T) {
	x := start(t)
	for i, r := range append(replies(), veryLong()...) {
		client, seq := i%api.MaxClients, 1+i
		x.done(client, seq, r, "OK")
		x.again(client, seq, r)
		x.asks(client, seq+1, "Fresh")
		x.done(client, seq, reply(1), "ErrArg")
		x.again(client, seq, r)
	}
	// A Reply is remembered also if it is the zero Reply, in place of another.
	x.done(0, 100000, api.Reply{}, "OK")
	x.again(0, 100000, api.Reply{})
	x.last(0, 100000)
}

func TestR1NoTable(t *testing.T) {
	x := table{t, nil}
	for _, client := range append([]int{0, 1, api.MaxClients - 1}, others...) {
		x.last(client, 0)
		for _, seq := range asked(1) {
			x.asks(client, seq, "none")
			x.done(client, seq, reply(1), "ErrArg")
			x.done(client, seq, api.Reply{}, "ErrArg")
		}
	}
	if b := x.session.Save(); len(b) > 0 {
		t.Errorf("R1: Save of no table: %q", b)
	}
}
