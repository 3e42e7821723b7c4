package ledger

import (
	"slices"
	"testing"

	"counterfoil/api"
	"counterfoil/req"
)

// TestNoMore: there may be so many events, and no more.
func TestNoMore(t *testing.T) {
	for _, events := range []int{1, 2, 3, 63, 64, 65, 255, 256, 257, 399, 400} {
		x := made(t, conf(events))
		for i := range events {
			x.l.Apply(i%2, 0, req.Batch{Reqs: []req.Req{give(1-i%2, 0, 1)}})
			x.p.apply(i%2, 0, req.Batch{Reqs: []req.Req{give(1-i%2, 0, 1)}})
		}
		x.holds(t, "full")
		if n := len(x.l.Events()); n != events {
			t.Fatalf("P12.2: %d of %d events", n, events)
		}
		for party := range 3 {
			a := x.apply(t, asks(party, 1, give(0, 0, 1), give(1, 0, 1), give(2, 0, 1), lock(0, 0, 1, "s", 9), lock(1, 0, 1, "s", 9), give(1, 1, 1), lock(2, 1, 1, "s", 9)))
			if got := codes(a); !slices.Equal(got, slices.Repeat([]api.Errno{12}, 7)) {
				t.Errorf("P12.2: in %d events there are: %v", events, got)
			}
		}
		x.holds(t, "full, and asked")
	}
}

// TestLocksAlone: each Lock takes two places, and one that is left does not do.
func TestLocksAlone(t *testing.T) {
	for _, events := range []int{1, 2, 3, 4, 5, 63, 64, 99, 100} {
		x := made(t, conf(events))
		for range 60 {
			x.apply(t, asks(0, 1, lock(1, 0, 1, "s", 9)))
		}
		if n := len(x.l.Events()); n != events/2 {
			t.Errorf("P12.2: of %d places %d Locks", events, n)
		}
		a := x.apply(t, asks(0, 1, lock(1, 0, 1, "s", 9), give(1, 0, 1), give(1, 0, 1)))
		want := []api.Errno{12, 12, 12}
		if events%2 == 1 {
			want[1] = 0
		}
		if got := codes(a); !slices.Equal(got, want) {
			t.Errorf("P12.2: of %d places, all locked: %v", events, got)
		}
		// All of them are closed, half by a Claim.
		for id := range events / 2 {
			if id%2 == 0 {
				x.plays(t, asks(1, 2, claim(id, "s")))
			}
		}
		for id := range events / 2 {
			if id%2 == 1 {
				x.plays(t, asks(0, 9, refund(id)))
			}
		}
		x.holds(t, "all closed")
		if n := len(x.l.Events()); n != events {
			t.Errorf("P12.6: %d of %d events", n, events)
		}
	}
}

// TestRoomFirst: without room a Transfer and a Lock are ErrFull, whatever else is
// wrong with them, but for what they have and for who asks.
func TestRoomFirst(t *testing.T) {
	for events, kinds := range map[int][]int{8: {1, 2}, 9: {2}} {
		for _, r := range refusals() {
			x := scene(t, events)
			want := r.code
			if slices.Contains(kinds, r.q.Kind) && isWhole(r.q) {
				want = api.ErrFull
			}
			if got := codes(x.apply(t, asks(r.party, 0, r.q))); got[0] != want {
				t.Errorf("P12.2: of %d places: %s: %d, not %d", events, r.why, got[0], want)
			}
		}
	}
}

// TestPlaces: the last places, with escrows that are Open and that are closed.
func TestPlaces(t *testing.T) {
	type places struct {
		events int
		l      []req.Req
		want   []api.Errno
	}
	g, k, none := give(1, 0, 1), lock(1, 0, 1, "s", 99), give(1, 0, 0)
	for _, c := range []places{
		{8, []req.Req{g, k, none}, []api.Errno{12, 12, 12}},
		{9, []req.Req{k, none, g, g}, []api.Errno{12, 1, 0, 12}},
		{10, []req.Req{k, g, none}, []api.Errno{0, 12, 12}},
		{10, []req.Req{g, k, g, g}, []api.Errno{0, 12, 0, 12}},
		{10, []req.Req{none, k, none}, []api.Errno{1, 0, 12}},
		{11, []req.Req{k, k, g, k}, []api.Errno{0, 12, 0, 12}},
		{12, []req.Req{k, k, k, g}, []api.Errno{0, 0, 12, 12}},
		{8, []req.Req{refund(1), g, k}, []api.Errno{0, 12, 12}},
		{9, []req.Req{refund(1), k, g, k}, []api.Errno{0, 12, 0, 12}},
		{10, []req.Req{refund(1), k, g}, []api.Errno{0, 0, 12}},
		{9, []req.Req{g, refund(1), refund(1), refund(0), g}, []api.Errno{0, 0, 9, 11, 12}},
	} {
		x := scene(t, c.events)
		if got := codes(x.apply(t, asks(0, 0, c.l...))); !slices.Equal(got, c.want) {
			t.Errorf("P12.2: of %d places: %v", c.events, got)
		}
		x.plays(t, asks(1, 0, claim(0, "s")))
		x.holds(t, "the last places")
	}
}

// TestAllRows makes each row of six steps in ledgers of few places: a Claim and a
// Refund of an Open escrow are never refused for room.
func TestAllRows(t *testing.T) {
	for events := 1; events <= 6; events++ {
		for row := range 1 << 12 {
			x := pair{nil, begun(conf(events))}
			x.l, _ = New(table, conf(events))
			for i := range 6 {
				x.rowStep(t, i, row>>(2*i)&3)
			}
		}
	}
}

// rowStep makes step i of a row, at the clock i: a Transfer, a Lock that is to be
// claimed, one that is to be refunded, or what closes the first Open escrow.
func (x pair) rowStep(t *testing.T, i, kind int) {
	t.Helper()
	switch kind {
	case 0:
		x.apply(t, asks(0, i, give(1, 0, 1)))
	case 1:
		x.apply(t, asks(0, i, lock(1, 0, 1, "s", 99)))
	case 2:
		x.apply(t, asks(0, i, lock(1, 0, 1, "s", i+1)))
	case 3:
		for id, v := range x.p.escrows {
			if v.State == 0 {
				x.closes(t, i, id)
				return
			}
		}
	}
}

// closes claims or refunds escrow id, which must be done.
func (x pair) closes(t *testing.T, clock, id int) {
	t.Helper()
	s := asks(1, clock, claim(id, "s"))
	if clock >= x.p.escrows[id].Deadline {
		s = asks(0, clock, refund(id))
	}
	if a := x.apply(t, s); a.Replies[0].Code != api.OK {
		t.Fatalf("P12.6: %v: %d", s, a.Replies[0].Code)
	}
}
