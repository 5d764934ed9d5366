package model_test

import (
	"fmt"
	"math"
	"testing"

	"confluence/api"
)

// noClients are numbers that no client has, noSeqs those that no entry has.
var (
	noClients = []int{math.MinInt, math.MinInt32, -api.MaxClients, -2, -1, api.MaxClients, api.MaxClients + 1, 255, 256, 1 << 32, 1<<32 + 1, math.MaxInt}
	noSeqs    = []int{math.MinInt, math.MinInt32, -greatest, -2, -1, 0, greatest + 1, greatest + 2, math.MaxInt32, 1 << 32, 1<<32 + 1, math.MaxInt}
)

// entries is one of each Kind, some of them done and some refused on the common tables and views.
var entries = []string{"table w: a Int", "table t: a Int", "drop c", "drop t", "view w: (table u)", "view w: (table", "view w: (table x)", "unview g", "unview w", "update +c 5", "update +c 5; -u 1 1", "kind 0", "kind 9", "kind -1"}

func TestP181WhoIsNone(t *testing.T) {
	d := start(t, common...)
	before := state(t, d.model)
	was := d.model.Copy()
	for _, s := range entries {
		for _, client := range noClients {
			for _, seq := range append([]int{1, 2, 50, greatest}, noSeqs...) {
				d.send(client, seq, s, "ErrArg")
			}
		}
		for client := range api.MaxClients {
			for _, seq := range noSeqs {
				d.send(client, seq, s, "ErrArg")
			}
		}
	}
	if now := state(t, d.model); now != before || !d.model.Same(was) {
		t.Errorf("P18.1: an entry of nobody has made %s of %s", now, before)
	}
	for _, client := range noClients {
		if n := d.model.Last(client); n != 0 {
			t.Errorf("P18.2: Last(%d) is %d", client, n)
		}
	}
}

// TestP181Again has each entry come again: as it was, and with another content.
func TestP181Again(t *testing.T) {
	for i, s := range entries {
		d := start(t, common...)
		want := answer(d.model.Copy().Do(from(7, 30, entry(s))))
		d.send(7, 30, s, want)
		before, was := state(t, d.model), d.model.Copy()
		for range 3 {
			d.send(7, 30, s, want)
		}
		for _, other := range entries {
			d.send(7, 30, other, want)
		}
		if now := state(t, d.model); now != before || !d.model.Same(was) {
			t.Errorf("P18.1: %d: again: %s, not %s", i, now, before)
		}
	}
}

// TestP181AgainLater has entries come again after others, which have made the Reply to the same entry another one.
func TestP181AgainLater(t *testing.T) {
	d := start(t)
	d.send(1, 10, "view v: (table t)", "ErrName t")
	d.send(2, 10, "table t: a Int", "OK")
	d.send(3, 10, "update -t 1", "ErrAbsent")
	d.send(4, 10, "update +t 1; +x 1", "ErrName 1")
	d.send(5, 10, "update +t 1", "OK")
	d.send(6, 10, "view v: (table t)", "OK")
	d.send(7, 10, "drop t", "ErrUsed v")
	d.send(8, 10, "view w: (filter (add a 9223372036854775807) (table t))", "ErrOver w")
	d.send(9, 10, "view x: (filter (add a 9223372036854775806) (table t))", "OK")
	d.send(10, 10, "update +t 2", "ErrOver x")
	d.send(11, 10, "view y: (table", "ErrEnd 6")
	d.send(12, 10, "kind 7", "ErrForm")
	d.send(13, 10, "table x: a Int", "ErrTaken")
	d.send(14, 10, "unview x", "OK")
	d.send(15, 10, "table x: a Int", "OK")
	was := d.model.Copy()
	for range 2 {
		for client, x := range []struct{ entry, want string }{
			{}, {"view v: (table t)", "ErrName t"}, {"table t: a Int", "OK"}, {"update -t 1", "ErrAbsent"}, {"update +t 1; +x 1", "ErrName 1"}, {"update +t 1", "OK"},
			{"view v: (table t)", "OK"}, {"drop t", "ErrUsed v"}, {"view w: (filter (add a 9223372036854775807) (table t))", "ErrOver w"},
			{"view x: (filter (add a 9223372036854775806) (table t))", "OK"}, {"update +t 2", "ErrOver x"}, {"view y: (table", "ErrEnd 6"},
			{"kind 7", "ErrForm"}, {"table x: a Int", "ErrTaken"}, {"unview x", "OK"}, {"table x: a Int", "OK"},
		} {
			if client > 0 {
				d.send(client, 10, x.entry, x.want)
				d.send(client, 9, x.entry, "ErrPast")
				d.send(client, 10, "kind 0", x.want)
			}
		}
	}
	d.has("table t 1 | table x | view v 1")
	if !d.model.Same(was) {
		t.Error("P18.1: entries that came again have changed the database")
	}
	// As fresh ones, they are answered by the database as it is now.
	d.send(1, 11, "view v: (table t)", "ErrTaken")
	d.send(3, 11, "update -t 1", "OK")
	d.send(4, 11, "update +t 1; +x 1", "OK")
	d.send(8, 11, "view w: (filter (add a 9223372036854775806) (table t))", "OK")
	d.send(10, 11, "update +t 2", "ErrOver w")
	d.has("table t 1 | table x 1 | view v 1 | view w 1")
}

// TestP181Past has entries come with a seq before the last one, be it one that was done or left out.
func TestP181Past(t *testing.T) {
	d := start(t, common...)
	d.send(9, 3, "update +c 1", "OK")
	d.send(9, 10, "update +c 2", "OK")
	before, was := state(t, d.model), d.model.Copy()
	for _, s := range entries {
		for seq := 1; seq < 10; seq++ {
			d.send(9, seq, s, "ErrPast")
		}
		d.send(0, 1, s, "ErrPast")
		d.send(0, d.model.Last(0)-1, s, "ErrPast")
	}
	if now := state(t, d.model); now != before || !d.model.Same(was) {
		t.Errorf("P18.1: past entries have made %s of %s", now, before)
	}
	d.send(9, 10, "kind 0", "OK")
	d.send(9, 11, "update +c 3", "OK")
	d.send(9, 10, "kind 0", "ErrPast")
}

// TestP181Fresh has seqs grow by one and by more, up to the greatest: one client adds a row, the next one removes it.
func TestP181Fresh(t *testing.T) {
	d := start(t, "table t: a Int")
	for _, seq := range []int{2, 3, 4, 10, 255, 256, 65536, 1 << 29, greatest - 1, greatest} {
		for client := range api.MaxClients {
			s, want := "update +t 1", "table t 1"
			if client%2 == 1 {
				s, want = "update -t 1", "table t"
			}
			d.send(client, seq, s, "OK")
			d.send(client, seq-1, s, "ErrPast")
			d.send(client, 1, s, "ErrPast")
			d.has(want)
			if n := d.model.Last(client); n != seq {
				t.Errorf("P18.2: Last(%d) is %d, not %d", client, n, seq)
			}
		}
	}
	for client := range api.MaxClients {
		d.send(client, greatest+1, "update +t 1", "ErrArg")
		d.send(client, greatest, "update +t 1", "OK")
	}
	d.has("table t")
	// The first seq of a client may be any.
	for client, seq := range []int{1, 2, 1000, greatest} {
		d := start(t)
		d.send(client, seq, "table t: a Int", "OK")
		d.has("table t")
	}
}

// TestP181SeqsOfErrors has an entry that is refused use its seq, whatever its error is.
func TestP181SeqsOfErrors(t *testing.T) {
	d := start(t, common...)
	for i, x := range refused {
		seq := 1 + 2*i
		d.send(6, seq, x.entry, x.want)
		if n := d.model.Last(6); n != seq {
			t.Errorf("P18.1: %s: Last is %d, not %d", cut(x.entry), n, seq)
		}
		d.send(6, seq, "update +c 1", x.want)
		if i > 0 {
			d.send(6, seq-1, "update +c 1", "ErrPast")
			d.send(6, seq-2, "update +c 1", "ErrPast")
		}
		d.has(commonRows)
	}
}

// TestP181Clients have seqs of their own, and do not see those of others.
func TestP181Clients(t *testing.T) {
	d := start(t, "table t: a Int")
	for client := range api.MaxClients {
		d.send(client, 5+client, fmt.Sprint("update +t ", client), "OK")
		for c := range api.MaxClients {
			want := 0
			switch {
			case c <= client:
				want = 5 + c
			case c == 0:
				want = 1
			}
			if n := d.model.Last(c); n != want {
				t.Errorf("P18.2: Last(%d) is %d, not %d", c, n, want)
			}
		}
	}
	if s, _ := d.model.Table("t"); show(s) != "0; 1; 2; 3; 4; 5; 6; 7; 8; 9; 10; 11; 12; 13; 14; 15" {
		t.Errorf("P18.1: %s", show(s))
	}
}
