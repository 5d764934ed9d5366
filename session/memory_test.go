package session_test

import (
	"bytes"
	"slices"
	"strings"
	"testing"

	"confluence/api"
	"confluence/session"
)

// spoil overwrites bytes, with the room behind them.
func spoil(b []byte) {
	b = b[:cap(b)]
	for i := range b {
		b[i] = 77
	}
}

// whole returns bytes with the room behind them.
func whole(b []byte) string { return string(b[:cap(b)]) }

func TestR2SaveIsNewMemory(t *testing.T) {
	for _, x := range some(t) {
		was := x.state()
		one, two := x.session.Save(), x.session.Save()
		before := whole(two)
		if len(one) > 0 && !bytes.Equal(one, two) {
			t.Errorf("R4: %s is saved in two ways", x.brief())
		}
		spoil(one)
		if whole(two) != before {
			t.Errorf("R2: results of Save of %s share memory", x.brief())
		}
		if x.state() != was || !bytes.Equal(x.session.Save(), two) {
			t.Errorf("R2: what was done to a result of Save has made %s", x.brief())
		}
	}
}

// TestR2SaveStays as it was answered, whatever becomes of the table.
func TestR2SaveStays(t *testing.T) {
	x := all(t)
	b := x.session.Save()
	before := whole(b)
	for client := range api.MaxClients {
		x.done(client, greatest, reply(9), "OK")
	}
	x.session.Save()
	if whole(b) != before {
		t.Error("R2: what was saved has changed")
	}
}

func TestR2LoadKeepsNothing(t *testing.T) {
	for _, x := range some(t) {
		b := append(x.session.Save(), 9, 9, 9, 9)
		b = b[: len(b)-4 : len(b)]
		before := whole(b)
		s, why := session.Load(b)
		if why != api.OK {
			t.Fatalf("P17.2: Load with room behind the bytes: %s", showErr(why))
		}
		y := table{t, s}
		if whole(b) != before {
			t.Errorf("R2: Load of %s has changed its bytes", x.brief())
		}
		spoil(b)
		if y.state() != x.state() || !bytes.Equal(s.Save(), x.session.Save()) {
			t.Errorf("R2: what was done to the bytes has turned %s into %s", x.brief(), y.brief())
		}
		y.done(0, greatest, reply(3), "OK")
		if whole(b) != strings.Repeat("M", cap(b)) {
			t.Errorf("R2: a table that was loaded has changed its bytes")
		}
	}
}

// TestR5RoomBehindTheBytes counts for nothing.
func TestR5RoomBehindTheBytes(t *testing.T) {
	b := all(t).session.Save()
	for n := range b {
		short := slices.Clone(b)[:n]
		notLoaded(t, short)
		if !bytes.Equal(short[:len(b)], b) {
			t.Fatalf("R2: Load of %d bytes has changed what is behind them", n)
		}
	}
}

// TestR2Names are not those of the caller, when he goes on to write into the bytes that they were made of.
func TestR2Names(t *testing.T) {
	x := start(t)
	b := []byte("abc")
	x.done(1, 1, api.Reply{Name: string(b)}, "OK")
	spoil(b)
	x.again(1, 1, api.Reply{Name: "abc"})
	_, r := x.session.Ask(1, 1)
	r.Name, r.At, r.Why = "other", 5, api.ErrArg
	x.again(1, 1, api.Reply{Name: "abc"})
}
