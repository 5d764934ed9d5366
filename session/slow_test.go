package session_test

import (
	"math/rand"
	"testing"

	"confluence/api"
	"confluence/session"
)

// slow remembers every call of Done that was OK and goes by the chapter's words.
type slow []call

type call struct {
	client, seq int
	r           api.Reply
}

func (l slow) last(client int) int {
	n := 0
	for _, c := range l {
		if c.client == client {
			n = c.seq
		}
	}
	return n
}

func (l slow) ask(client, seq int) (int, api.Reply) {
	if client < 0 || client > api.MaxClients-1 || seq < 1 || seq > greatest {
		return 0, api.Reply{}
	}
	if seq > l.last(client) {
		return session.Fresh, api.Reply{}
	}
	if seq < l.last(client) {
		return session.Past, api.Reply{}
	}
	for _, c := range l {
		if c.client == client && c.seq == seq {
			return session.Again, c.r
		}
	}
	panic("nothing is remembered")
}

// TestP171AgainstSlow makes random calls of a table and of a slow one.
func TestP171AgainstSlow(t *testing.T) {
	r := rand.New(rand.NewSource(171))
	kinds := map[int]int{}
	for range 60 {
		x, l := start(t), slow{}
		far := []int{6, 30, 300, greatest + 10}[r.Intn(4)]
		for range 80 {
			client, seq := r.Intn(api.MaxClients+2)-1, r.Intn(far)-1
			if r.Intn(3) > 0 {
				client = r.Intn(4)
			}
			if r.Intn(3) == 0 {
				seq = l.last(client) + r.Intn(4) - 1
			}
			kind, want := l.ask(client, seq)
			kinds[kind]++
			if k, got := x.session.Ask(client, seq); k != kind || got != want {
				t.Fatalf("P17.1: %s: Ask(%d, %d): %s, %s, not %s, %s", x.brief(), client, seq, showKind(k), showReply(got), showKind(kind), showReply(want))
			}
			given := reply(r.Intn(1000) - 500)
			if kind == session.Fresh {
				x.done(client, seq, given, "OK")
				l = append(l, call{client, seq, given})
			} else {
				x.done(client, seq, given, "ErrArg")
			}
			for c := -1; c <= api.MaxClients; c++ {
				x.last(c, l.last(c))
			}
			if r.Intn(20) == 0 {
				x = x.loaded()
			}
		}
	}
	for _, kind := range []int{0, session.Fresh, session.Again, session.Past} {
		if kinds[kind] < 100 {
			t.Errorf("only %d requests were of kind %d", kinds[kind], kind)
		}
	}
}
