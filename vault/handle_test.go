package vault

import (
	"bytes"
	"math"
	"slices"
	"testing"

	"counterfoil/api"
	"counterfoil/frame"
	"counterfoil/journal"
	"counterfoil/req"
)

// TestByHand holds answers and records against bytes that were written by hand.
func TestByHand(t *testing.T) {
	x := paired(t, conf(12), "by hand")
	moved := []byte{1, 0, 1, 0, 0, 0, 0, 0, 0, 0, 0, 7} // a Transfer's event
	answers := [][]byte{
		slices.Concat([]byte{0, 0, 0, 0, 0, 0, 1, 2, 0, 1, 2, 0, 0, 0, 7, 0, 0, 0, 1}, moved),
		slices.Concat([]byte{0, 0, 0, 0, 0, 0, 1, 2, 0, 1, 0, 0, 1}, moved),
		{0, 0, 0, 0, 0, 0, 1, 3, 0, 1, 0, 0, 0},
	}
	for i, in := range [][]byte{batch(0, give(1, 7), give(1, 994)), {0, 0, 0}, {0, 2, 0}} {
		party := i % 2
		got, e := x.handle(party, 1+i/2, []int{258, 7, 259}[i], in)
		if e != api.OK || !bytes.Equal(got, answers[i]) {
			t.Errorf("P13.2: answer %d: %x, %d", i, got, e)
		}
	}
	records := [][]byte{
		append([]byte{0, 0, 0, 0, 1, 0, 0, 0, 0, 0, 0, 1, 2}, batch(0, give(1, 7), give(1, 994))...),
		{1, 0, 0, 0, 1, 0, 0, 0, 0, 0, 0, 1, 2, 0, 0, 0},
		{0, 0, 0, 0, 2, 0, 0, 0, 0, 0, 0, 1, 3, 0, 2, 0},
	}
	if got := journal.Open(table, x.d).Records(); !slices.EqualFunc(got, records, bytes.Equal) {
		t.Errorf("P13.2: records %x", got)
	}
}

// wrong is what may be wrong with a call of Handle, in the order of the promise.
type wrong struct {
	down, party, again, stale, form bool
	lay                             int // 0 it goes in, 1 the disk is down, 2 no Gen is left
}

// first is the error that comes first, and true, if the answer is the one again.
func (w wrong) first() (api.Errno, bool) {
	switch {
	case w.down:
		return 13, false
	case w.party:
		return 14, false
	case w.again:
		return 0, true
	case w.stale:
		return 5, false
	case w.form:
		return 2, false
	}
	return []api.Errno{0, 13, 12}[w.lay], false
}

// wrongCalls are all choices of what may be wrong.
func wrongCalls() []wrong {
	var l []wrong
	for bits := range 32 {
		for lay := range 3 {
			w := wrong{bits&1 > 0, bits&2 > 0, bits&4 > 0, bits&8 > 0, bits&16 > 0, lay}
			if !(w.again && w.stale) && !(w.down && lay == 0) {
				l = append(l, w)
			}
		}
	}
	return l
}

// crammed answers a pair whose half has no room for a record of three sectors, with
// no Gen left.
func crammed(t *testing.T) *pair {
	t.Helper()
	c := conf(12)
	d := sized(t, Need(c))
	y := scene(t, 12)
	raw(t, d, 0, frame.Frame{Kind: 1, Gen: topmost, Body: y.p.fold()})
	x := over(t, c, d, "no Gen left")
	x.cram(2)
	return x
}

// TestOrder asks with each choice of what may be wrong: the first one is told, and
// nothing else happens.
func TestOrder(t *testing.T) {
	for _, w := range wrongCalls() {
		var x *pair
		if w.lay == 2 {
			x = crammed(t)
		} else {
			x = scene(t, 12)
		}
		if w.down || w.lay == 1 {
			x.fuse(0)
			x.d.Sync()
			x.p.dark = true
		}
		if w.down {
			x.refused(13, 2, 1, 50, batch(0))
			if w.lay == 2 {
				x.crash(nil)
			}
		}
		party, seq, b := 0, x.p.last(0)+1, batch(0, lock(1, 1, "s", 90), lock(1, 1, "s", 90), lock(1, 1, "s", 90))
		if w.again {
			seq--
		}
		if w.stale {
			seq++
		}
		if w.form {
			b = []byte{1}
		}
		for _, party := range [][]int{{party}, {-1, 3, math.MinInt, math.MaxInt, 256}}[b2i(w.party)] {
			want, again := w.first()
			was := x.p.fold()
			got, e := x.handle(party, seq, 70, b)
			if e != want || (len(got) > 0) != (want == api.OK) {
				t.Fatalf("P13.2: %v: %d, not %d", w, e, want)
			}
			if (want != api.OK || again) && !bytes.Equal(was, x.p.fold()) {
				t.Fatalf("P13.2: %v: something is changed", w)
			}
			if x.v.Down() != (want == 13) {
				t.Fatalf("P13.2: %v: Down() %t", w, x.v.Down())
			}
		}
	}
}

func b2i(b bool) int {
	if b {
		return 1
	}
	return 0
}

// TestNumbers asks with each number there is to ask with, of parties who asked
// before and of one who did not.
func TestNumbers(t *testing.T) {
	for party := range 3 {
		x := scene(t, 12)
		for range 3 {
			last := x.p.last(party)
			for _, seq := range append(slices.Clone(nones), last-2, last-1, last+2, last+3, last+256, last+1<<32, last+1+1<<32) {
				if seq == last && last > 0 || seq == last+1 {
					continue
				}
				x.refused(5, party, seq, 30, batch(0, give(0, 1)))
				x.refused(5, party, seq, 30, nil)
			}
			if last > 0 {
				x.refused(0, party, last, 30, batch(0, give((party+1)%3, 1)))
			} else {
				x.refused(5, party, 0, 30, batch(0))
			}
			x.next(party, 12, give((party+1)%3, 1))
		}
		x.open()
	}
}

// TestGreatestNumber asks up to the greatest number, and above it.
func TestGreatestNumber(t *testing.T) {
	x := scene(t, 12)
	c := x.c
	x = over(t, c, with(t, c, lasts(x, told(topmost-2, 11, 5, 0)...)), "near the greatest number")
	for range 2 {
		x.refused(5, 2, topmost, 12, batch(0))
		x.next(2, 12, give(0, 1))
		x.refused(5, 2, topmost+1, 12, batch(0))
		x.next(2, 13, give(0, 0))
		for _, seq := range []int{topmost + 1, topmost + 2, topmost - 1, 1, 0, -1, math.MaxInt, math.MinInt} {
			x.refused(5, 2, seq, 14, batch(0, give(0, 1)))
			x.refused(5, 2, seq, 14, nil)
		}
		x.refused(0, 2, topmost, 14, nil)
		x.open()
		x.refused(0, 2, topmost, 14, nil)
		x.refused(5, 2, topmost+1, 14, batch(0))
		x = over(t, c, with(t, c, x.p.fold()), "a picture with the greatest number")
		x.refused(5, 2, topmost+1, 14, batch(0))
		x.refused(0, 2, topmost, 14, nil)
		x = over(t, c, with(t, c, lasts(scene(t, 12), told(topmost-2, 11, 5, 0)...)), "once more")
	}
}

// TestAgain asks for the same again, with whatever beside the number, behind others'
// batches, behind an Open, and behind a picture.
func TestAgain(t *testing.T) {
	x := scene(t, 40)
	first := x.next(2, 12, give(0, 2), give(0, 9), lock(1, 1, "x", 30), lock(1, 1, "x", 5))
	again := func(what string) {
		t.Helper()
		x.what = what
		served := x.v.Served()
		for _, clock := range []int{0, 12, 13, 1 << 40, -1, math.MaxInt} {
			for _, b := range [][]byte{nil, {}, {9}, batch(0), batch(0, give(0, 1)), make([]byte, 70000)} {
				got, e := x.handle(2, 1, clock, b)
				if e != api.OK || !bytes.Equal(got, first) || x.v.Served() != served {
					t.Fatalf("P13.2: %s: %x, %d", what, got, e)
				}
			}
		}
	}
	again("at once")
	x.next(0, 14, give(1, 1), give(2, 1))
	again("behind another's")
	x.next(1, 40, give(0, 1))
	again("behind two others'")
	x.open()
	again("behind an Open")
	x = over(t, x.c, with(t, x.c, x.p.fold()), "behind a picture")
	again("behind a picture")
	x.next(0, 41, give(1, 1))
	x.open()
	again("behind a picture, a record and an Open")
	for x.v.Served() < 400 {
		x.next(0, 41)
	}
	if x.p.store.gen < 3 {
		t.Fatalf("P13.2: Gen %d", x.p.store.gen)
	}
	again("behind some pictures")
	x.open()
	again("behind some pictures and an Open")
	x.next(2, 42)
	x.refused(5, 2, 1, 42, batch(0))
}

// TestAgainSeen: the events of the same answer are those of before, whatever
// the batch had Seen and whatever was done since.
func TestAgainSeen(t *testing.T) {
	for seen := range 14 {
		x := scene(t, 12)
		had := len(x.p.l.Events())
		a, _ := x.handle(2, 1, 12, batch(seen))
		b, _ := req.DecodeAnswer(a)
		if want := had - seen; b.Seen != had || len(b.Events) != max(0, want) {
			t.Errorf("P13.2: Seen %d: %d events", seen, len(b.Events))
		}
		for k := range 3 {
			x.next(0, 12+k, give(1, 1), give(1, 1))
			y := over(t, x.c, with(t, x.c, x.p.fold()), "behind a picture")
			for _, v := range []*pair{x, y} {
				if got, e := v.handle(2, 1, 0, nil); e != api.OK || !bytes.Equal(got, a) {
					t.Errorf("P13.2: Seen %d: %x, %d, not %x", seen, got, e, a)
				}
			}
		}
	}
}

// TestForms hands in bytes that are no batch, and such as have as many requests as
// may be.
func TestForms(t *testing.T) {
	x := scene(t, 400)
	many := slices.Repeat([]req.Req{lock(1, 1, "m", final)}, 64)
	most := batch(65535, many...)
	for _, b := range [][]byte{
		nil, {}, {0}, {0, 0}, {0, 0, 0, 0}, {0, 0, 1}, {0, 0, 255}, most[:len(most)-1], append(bytes.Clone(most), 0),
		append(append([]byte{0, 0, 65}, most[3:]...), batch(0, many[0])[3:]...), append([]byte{0, 0, 63}, most[3:]...),
		{0, 0, 1, 0}, {0, 0, 1, 5, 0, 0}, {0, 0, 1, 1, 0, 0, 128, 0, 0, 0, 0, 0, 0, 0}, make([]byte, 70000),
	} {
		x.refused(2, 2, 1, 30, b)
		if x.v.Served() != 5 {
			t.Errorf("P13.2: Served %d", x.v.Served())
		}
	}
	b, e := x.handle(2, 1, 30, most)
	if a, f := req.DecodeAnswer(b); e != api.OK || f != api.OK || len(a.Replies) != 64 || len(a.Events) != 0 {
		t.Errorf("P13.2: MaxReqs requests: %d", e)
	}
	x.next(0, 31, many...)
	x.open()
	x.next(0, 31, slices.Repeat([]req.Req{{Kind: 1, To: 255, Asset: 255, Amount: 1 << 62}, claim(65535, "x")}, 32)...)
	x.open()
}

// TestClocks hands in clocks of each kind: the record has the ledger's, as an Apply
// would set it.
func TestClocks(t *testing.T) {
	x := scene(t, 12)
	for _, clock := range []int{11, 10, 0, 12, 12, 11, -1, math.MinInt, final + 1, math.MaxInt, 1 << 62, 255, 256, 255, 65536, 1<<32 + 5, 1 << 32, final - 1, final + 1, final, final, final - 1, final + 1, 0} {
		want := x.v.Ledger().Clock()
		if clock > want && clock <= final {
			want = clock
		}
		b := x.next(2, clock)
		l := journal.Open(table, x.d).Records()
		if got := number(nil, want, 8); x.v.Ledger().Clock() != want || !bytes.Equal(l[len(l)-1][5:13], got) || !bytes.Equal(b[:8], got) {
			t.Errorf("P13.2: clock %d: %d, not %d", clock, x.v.Ledger().Clock(), want)
		}
		x.refused(0, 2, x.p.last(2), final, batch(0))
		x.open()
	}
}

// TestServed counts what was handled since Open, and nothing else.
func TestServed(t *testing.T) {
	x := scene(t, 12)
	is := func(n int) {
		t.Helper()
		if x.v.Served() != n {
			t.Fatalf("P13.1: Served %d, not %d", x.v.Served(), n)
		}
	}
	is(5)
	x.open()
	is(0)
	x.refused(0, 0, 3, 0, nil)
	x.refused(14, 3, 1, 0, batch(0))
	x.refused(5, 0, 5, 0, batch(0))
	x.refused(2, 0, 4, 0, nil)
	is(0)
	x.next(0, 12)
	is(1)
	x.refused(0, 0, 4, 0, nil)
	is(1)
	// All that is asked for is refused, and still it was handled.
	x.next(2, 12, give(2, 1), refund(77))
	is(2)
	x.fuse(0)
	x.refused(13, 0, 5, 0, batch(0))
	x.refused(13, 0, 4, 0, batch(0))
	is(2)
	x.crash(nil)
	x.open()
	is(0)
	x = crammed(t)
	n := x.v.Served()
	x.refused(12, 1, 3, 0, batch(0, lock(0, 1, "s", 90), lock(0, 1, "s", 90)))
	is(n)
}

// TestLedger: the ledger is the one that the batches are applied to.
func TestLedger(t *testing.T) {
	x := scene(t, 12)
	l := x.v.Ledger()
	x.next(2, 90, give(0, 0), req.Req{Kind: 1, Asset: 1, Amount: 5})
	if l != x.v.Ledger() || l.Clock() != 90 || l.Has(2, 1) != 0 || l.Has(0, 1) != 15 || len(l.Events()) != 6 {
		t.Errorf("P13.1: Ledger(): %d, %d", l.Clock(), l.Has(0, 1))
	}
	if v, ok := l.Escrow(0); !ok || v.State != 1 || l.Total(1) != 15 {
		t.Errorf("P13.1: Ledger(): %v", v)
	}
	x.open()
	if l == x.v.Ledger() {
		t.Error("P13.1: another Vault has the same ledger")
	}
}
