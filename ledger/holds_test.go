package ledger

import (
	"bytes"
	"fmt"
	"math"
	"slices"
	"testing"

	"counterfoil/api"
	"counterfoil/escrow"
	"counterfoil/req"
)

// conf is the beginning of most tests: three parties and two assets.
func conf(events int) Conf {
	return Conf{Start: [][]int{{100, 10}, {50, 0}, {0, 5}}, Events: events}
}

// pair is a Ledger, and the plain one that it must be like.
type pair struct {
	l *Ledger
	p *plain
}

// made answers a new pair.
func made(t *testing.T, c Conf) pair {
	t.Helper()
	l, e := New(table, c)
	if l == nil || e != api.OK {
		t.Fatalf("P12.1: New(%v): %d", c, e)
	}
	x := pair{l, begun(c)}
	x.holds(t, "P12.1: a new one")
	return x
}

// step is a call of Apply.
type step struct {
	party, clock int
	batch        req.Batch
}

// asks is a step without a Seen.
func asks(party, clock int, l ...req.Req) step {
	return step{party, clock, req.Batch{Reqs: l}}
}

// apply makes the step of both, and holds the answers, and what is left, against
// one another.
func (x pair) apply(t *testing.T, s step) req.Answer {
	t.Helper()
	want := x.p.apply(s.party, s.clock, s.batch)
	got := x.l.Apply(s.party, s.clock, s.batch)
	if !alike(got, want) {
		t.Fatalf("P12.2: %v:\n%v, not\n%v", s, got, want)
	}
	if why := x.differ(); why != "" {
		t.Fatalf("P12.2, P12.6: behind %v: %s", s, why)
	}
	return got
}

// plays makes the steps, of which all is done.
func (x pair) plays(t *testing.T, l ...step) pair {
	t.Helper()
	for _, s := range l {
		for i, r := range x.apply(t, s).Replies {
			if r.Code != api.OK {
				t.Fatalf("P12.2: %v: request %d: %d", s, i, r.Code)
			}
		}
	}
	return x
}

// alike tells if two answers are alike in all.
func alike(a, b req.Answer) bool {
	return a.Clock == b.Clock && a.Seen == b.Seen && slices.Equal(a.Replies, b.Replies) && slices.Equal(a.Events, b.Events)
}

// differ tells what l says otherwise than p of what there is, and nothing, if it
// says the same.
func (x pair) differ() string {
	if x.l.Clock() != x.p.clock {
		return fmt.Sprintf("Clock(): %d, not %d", x.l.Clock(), x.p.clock)
	}
	if got := x.l.Events(); !slices.Equal(got, x.p.events) {
		return fmt.Sprintf("Events():\n%v, not\n%v", got, x.p.events)
	}
	for id := range len(x.p.escrows) + 1 {
		got, ok := x.l.Escrow(id)
		want := escrow.Escrow{}
		if id < len(x.p.escrows) {
			want = x.p.escrows[id]
		}
		if got != want || ok != (id < len(x.p.escrows)) {
			return fmt.Sprintf("Escrow(%d): %v, %t, not %v", id, got, ok, want)
		}
	}
	for asset := range x.p.free[0] {
		for party := range x.p.free {
			if got := x.l.Has(party, asset); got != x.p.has(party, asset) {
				return fmt.Sprintf("Has(%d, %d): %d, not %d", party, asset, got, x.p.has(party, asset))
			}
		}
		if got := x.l.Total(asset); got != x.p.total(asset) {
			return fmt.Sprintf("Total(%d): %d, not %d", asset, got, x.p.total(asset))
		}
	}
	return ""
}

// holds asks l for all that it tells, of what there is not, too, and for its Save.
func (x pair) holds(t *testing.T, why string) {
	t.Helper()
	if got := x.differ(); got != "" {
		t.Fatalf("%s: P12.3: %s", why, got)
	}
	for _, i := range nones {
		if v, ok := x.l.Escrow(i); ok != between(i, 0, len(x.p.escrows)-1) || !ok && v != (escrow.Escrow{}) {
			t.Fatalf("%s: P12.3: Escrow(%d) of %d: %v, %t", why, i, len(x.p.escrows), v, ok)
		}
		if got := x.l.Total(i); !x.p.asset(i) && got != 0 {
			t.Fatalf("%s: P12.3: Total(%d), which is none: %d", why, i, got)
		}
		for _, j := range nones {
			if got := x.l.Has(i, j); got != x.p.has(i, j) {
				t.Fatalf("%s: P12.3: Has(%d, %d): %d, not %d", why, i, j, got, x.p.has(i, j))
			}
		}
	}
	b, e := x.l.Save()
	if want := x.p.save(); e != api.OK || !bytes.Equal(b, want) {
		t.Fatalf("%s: P12.4: Save():\n%v, %d, not\n%v", why, b, e, want)
	}
}

// nones are numbers of which some are none of a party, an asset or an escrow.
var nones = []int{
	math.MinInt, math.MinInt + 1, -1 << 32, -256, -2, -1, 0, 1, 2, 3, 4, 5, 6, 15, 16, 17, 255, 256, 257,
	65535, 65536, 1 << 32, 1<<32 + 1, math.MaxInt - 1, math.MaxInt,
}

// codes are the Codes of the Replies.
func codes(a req.Answer) []api.Errno {
	var l []api.Errno
	for _, r := range a.Replies {
		l = append(l, r.Code)
	}
	return l
}
