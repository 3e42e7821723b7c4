package escrow

import (
	"math"
	"testing"

	"counterfoil/api"
)

// secrets are the right one of text("s", 32), and others, of all lengths.
func secrets() []string {
	s := text("s", 32)
	return []string{
		s, "", "s", s[:31], s + "s", s + "\x00", s + s, text("s", 31) + "t", "t" + text("s", 31), text("S", 32), text("\x00", 31), text("\x00", 32), text("\x00", 33),
		text("\xff", 32), hashed(s), hashed(hashed(s)), text("é", 16), text("s", 32+256), text("s", 32+65536),
	}
}

// locked answers a Book with escrows of all States and of many Deadlines, each of
// the secret of 32 bytes s, and the plain one.
func locked(t *testing.T) (*Book, plain) {
	t.Helper()
	b, want := made(t, []int{100, 10}, []int{50, most - 10}, []int{0, 0})
	h, s := hashed(text("s", 32)), text("s", 32)
	return b, makes(t, b, want,
		call{kind: lock, from: 0, to: 1, asset: 0, amount: 20, text: h, deadline: 10, clock: 1},
		call{kind: lock, from: 0, to: 1, asset: 0, amount: 20, text: h, deadline: 10, clock: 1},
		call{kind: lock, from: 0, to: 1, asset: 0, amount: 20, text: h, deadline: 10, clock: 1},
		call{kind: lock, from: 1, to: 2, asset: 1, amount: most - 11, text: h, deadline: 1, clock: 0},
		call{kind: lock, from: 1, to: 0, asset: 0, amount: 1, text: h, deadline: last, clock: 0},
		call{kind: lock, from: 0, to: 2, asset: 1, amount: 10, text: h, deadline: last - 1, clock: last - 2},
		call{kind: claim, from: 1, id: 1, text: s, clock: 9},
		call{kind: refund, from: 0, id: 2, clock: 10},
	)
}

// TestClaim claims, and looks at what is To's, and at what the Book tells.
func TestClaim(t *testing.T) {
	b, want := made(t, []int{100, 0}, []int{50, 3})
	s := text("\x00", 32)
	want = makes(t, b, want, call{kind: lock, from: 0, to: 1, amount: 70, text: hashed(s), deadline: 10, clock: 9})
	if b.Purse().Has(0, 0) != 30 || b.Purse().Has(1, 0) != 50 || b.Open() != 1 || b.Total(0) != 150 {
		t.Fatalf("P10.1: %s", shown(b))
	}
	if e := b.Claim(1, 0, s, 9); e != api.OK {
		t.Fatalf("P10.2: Claim: %d", e)
	}
	x, ok := b.Get(0)
	if !ok || x != (Escrow{From: 0, To: 1, Asset: 0, Amount: 70, Deadline: 10, State: Claimed, Hash: hashed(s), Secret: s}) {
		t.Errorf("P10.2: %#v", x)
	}
	if b.Purse().Has(0, 0) != 30 || b.Purse().Has(1, 0) != 120 || b.Purse().Has(1, 1) != 3 || b.Open() != 0 || b.Len() != 1 || b.Total(0) != 150 || b.Total(1) != 3 {
		t.Errorf("P10.2: %s", shown(b))
	}
	want, _, _ = want.after(call{kind: claim, from: 1, id: 0, text: s, clock: 9})
	holds(t, b, want, "P10.2: a Claim")
}

// TestRefund refunds, and looks at what is From's, and at what the Book tells.
func TestRefund(t *testing.T) {
	b, want := made(t, []int{100, 0}, []int{50, 3})
	h := hashed("s")
	want = makes(t, b, want, call{kind: lock, from: 1, to: 0, asset: 1, amount: 3, text: h, deadline: 10, clock: 9})
	if e := b.Refund(1, 0, 9); e != api.ErrTime {
		t.Errorf("P10.2: Refund ahead of the Deadline: %d", e)
	}
	if e := b.Refund(1, 0, 10); e != api.OK {
		t.Fatalf("P10.2: Refund: %d", e)
	}
	x, ok := b.Get(0)
	if !ok || x != (Escrow{From: 1, To: 0, Asset: 1, Amount: 3, Deadline: 10, State: Refunded, Hash: h}) {
		t.Errorf("P10.2: %#v", x)
	}
	if b.Purse().Has(0, 1) != 0 || b.Purse().Has(1, 1) != 3 || b.Purse().Has(1, 0) != 50 || b.Open() != 0 || b.Len() != 1 || b.Total(1) != 3 {
		t.Errorf("P10.2: %s", shown(b))
	}
	want, _, _ = want.after(call{kind: refund, from: 1, id: 0, clock: 10})
	holds(t, b, want, "P10.2: a Refund")
}

// TestEachClaim makes every Claim: by each one, of each number, with each secret,
// at each clock. The Book is a new one behind each that was done.
func TestEachClaim(t *testing.T) {
	b, was := locked(t)
	done := 0
	for _, who := range nones(3) {
		for _, id := range nones(len(was.escrows)) {
			for _, secret := range secrets() {
				for _, clock := range ticks() {
					c := call{kind: claim, from: who, id: id, text: secret, clock: clock}
					if left := tries(t, b, was, c); left.open() != was.open() {
						done++
						b, was = locked(t)
					}
				}
			}
		}
	}
	if done == 0 {
		t.Error("P10.2: no Claim was done")
	}
	holds(t, b, was, "P10.2: each Claim")
}

// TestEachRefund does so of Refund.
func TestEachRefund(t *testing.T) {
	b, was := locked(t)
	done := 0
	for _, who := range nones(3) {
		for _, id := range nones(len(was.escrows)) {
			for _, clock := range ticks() {
				c := call{kind: refund, from: who, id: id, clock: clock}
				if left := tries(t, b, was, c); left.open() != was.open() {
					done++
					b, was = locked(t)
				}
			}
		}
	}
	if done == 0 {
		t.Error("P10.2: no Refund was done")
	}
	holds(t, b, was, "P10.2: each Refund")
}

// TestDeadlines closes at each clock near each Deadline, by who may.
func TestDeadlines(t *testing.T) {
	s := text("s", 32)
	for _, deadline := range []int{1, 2, 10, 1 << 32, last - 1, last} {
		for _, clock := range append(ticks(), deadline-2, deadline-1, deadline, deadline+1) {
			start := call{kind: lock, from: 0, to: 1, amount: 3, text: hashed(s), deadline: deadline, clock: 0}
			b, want := made(t, []int{5}, []int{0})
			want = makes(t, b, want, start)
			e, wantE := b.Claim(1, 0, s, clock), api.ErrTime
			if clock >= 0 && clock < deadline {
				wantE = api.OK
			}
			if e != wantE {
				t.Errorf("P10.2: Claim at %d of the Deadline %d: %d", clock, deadline, e)
			}
			b, want = made(t, []int{5}, []int{0})
			makes(t, b, want, start)
			e, wantE = b.Refund(0, 0, clock), api.ErrTime
			if clock >= deadline && clock <= last {
				wantE = api.OK
			}
			if e != wantE {
				t.Errorf("P10.2: Refund at %d of the Deadline %d: %d", clock, deadline, e)
			}
		}
	}
}

// TestSecretLengths locks by hashes of texts that are no secrets: no Claim is
// done with one of them, though its hash fits.
func TestSecretLengths(t *testing.T) {
	for _, s := range secrets() {
		b, want := made(t, []int{5}, []int{0})
		want = makes(t, b, want, call{kind: lock, from: 0, to: 1, amount: 3, text: hashed(s), deadline: 10, clock: 0})
		wantE := api.ErrForm
		if len(s) == 32 {
			wantE = api.OK
		}
		c := call{kind: claim, from: 1, id: 0, text: s, clock: 9}
		if _, _, e := want.after(c); e != wantE {
			t.Fatalf("plain: %v: %d", c, e)
		}
		tries(t, b, want, c)
	}
	// The hash itself is no secret, and is not compared as one.
	b, want := made(t, []int{5}, []int{0})
	want = makes(t, b, want, call{kind: lock, from: 0, to: 1, amount: 3, text: text("h", 32), deadline: 10, clock: 0})
	tries(t, b, want, call{kind: claim, from: 1, id: 0, text: text("h", 32), clock: 9})
}

// TestEachByteOfTheHash locks by hashes that differ from the right one by one
// bit: no Claim is done.
func TestEachByteOfTheHash(t *testing.T) {
	s := text("s", 32)
	for i := range 32 {
		for _, bit := range []byte{1, 2, 16, 128} {
			h := []byte(hashed(s))
			h[i] ^= bit
			b, want := made(t, []int{5}, []int{0})
			want = makes(t, b, want, call{kind: lock, from: 0, to: 1, amount: 3, text: string(h), deadline: 10, clock: 0})
			if e := b.Claim(1, 0, s, 9); e != api.ErrSecret || !same(b, want) {
				t.Errorf("P10.2: Claim with another byte %d of the hash: %d: %s", i, e, shown(b))
			}
			h[i] ^= bit
			if _, e := b.Lock(0, 1, 0, 2, string(h), 10, 0); e != api.OK || b.Claim(1, 1, s, 9) != api.OK {
				t.Error("P10.2: Claim of the right hash")
			}
		}
	}
}

// TestCloseFirstFault names the errors one by one: each row mends the fault that
// is told by the row ahead, and has all those behind it.
func TestCloseFirstFault(t *testing.T) {
	s := text("s", 32)
	b, want := made(t, []int{20}, []int{0}, []int{0})
	l := call{kind: lock, from: 0, to: 1, amount: 5, text: hashed(s), deadline: 10, clock: 0}
	want = makes(t, b, want, l, l, l, l)
	want = makes(t, b, want, call{kind: claim, from: 1, id: 0, text: s, clock: 9}, call{kind: refund, from: 0, id: 1, clock: 10})
	want = makes(t, b, want, call{kind: give, from: 2, amount: most - 10})
	full := want
	for i, c := range []struct {
		c call
		e api.Errno
	}{
		{call{kind: claim, from: 0, id: 4, text: "", clock: 10}, api.ErrNone},
		{call{kind: claim, from: 1, id: -1, text: s, clock: 9}, api.ErrNone},
		{call{kind: claim, from: 0, id: 0, text: "", clock: 10}, api.ErrParty},
		{call{kind: claim, from: 2, id: 1, text: "", clock: 10}, api.ErrParty},
		{call{kind: claim, from: -1, id: 2, text: "", clock: 10}, api.ErrParty},
		{call{kind: claim, from: 1, id: 0, text: "", clock: 10}, api.ErrClosed},
		{call{kind: claim, from: 1, id: 1, text: "", clock: math.MinInt}, api.ErrClosed},
		{call{kind: claim, from: 1, id: 2, text: "", clock: 10}, api.ErrTime},
		{call{kind: claim, from: 1, id: 2, text: "", clock: -1}, api.ErrTime},
		{call{kind: claim, from: 1, id: 2, text: "", clock: 9}, api.ErrForm},
		{call{kind: claim, from: 1, id: 2, text: s + s, clock: 9}, api.ErrForm},
		{call{kind: claim, from: 1, id: 2, text: text("t", 32), clock: 9}, api.ErrSecret},
		{call{kind: claim, from: 1, id: 2, text: s, clock: 9}, api.ErrRange},
		{call{kind: refund, from: 1, id: 4, clock: 9}, api.ErrNone},
		{call{kind: refund, from: 0, id: math.MinInt, clock: 10}, api.ErrNone},
		{call{kind: refund, from: 1, id: 0, clock: 9}, api.ErrParty},
		{call{kind: refund, from: 3, id: 2, clock: last + 1}, api.ErrParty},
		{call{kind: refund, from: 0, id: 0, clock: 9}, api.ErrClosed},
		{call{kind: refund, from: 0, id: 1, clock: last + 1}, api.ErrClosed},
		{call{kind: refund, from: 0, id: 2, clock: 9}, api.ErrTime},
		{call{kind: refund, from: 0, id: 2, clock: last + 1}, api.ErrTime},
		{call{kind: refund, from: 0, id: 2, clock: 10}, api.ErrRange},
	} {
		if _, e := c.c.do(b); e != c.e {
			t.Errorf("P10.2: row %d: %v: %d, not %d", i, c.c, e, c.e)
		}
		holds(t, b, full, "P10.2: the first fault")
	}
}

// TestClosedOnce tries all that could close an escrow once more.
func TestClosedOnce(t *testing.T) {
	s := text("s", 32)
	for _, first := range []call{{kind: claim, from: 1, text: s, clock: 9}, {kind: refund, from: 0, clock: 10}} {
		b, want := made(t, []int{20}, []int{7})
		want = makes(t, b, want, call{kind: lock, from: 0, to: 1, amount: 5, text: hashed(s), deadline: 10, clock: 0})
		want = makes(t, b, want, first)
		for _, who := range []int{-1, 0, 1, 2} {
			for _, clock := range ticks() {
				for _, secret := range secrets() {
					tries(t, b, want, call{kind: claim, from: who, text: secret, clock: clock})
				}
				tries(t, b, want, call{kind: refund, from: who, clock: clock})
			}
		}
		holds(t, b, want, "P10.4: closed once")
	}
}
