package line_test

import (
	"math"
	"testing"

	"counterfoil/api"
	"counterfoil/seal"
)

// TestGot tells what is due.
func TestGot(t *testing.T) {
	for _, party := range ids() {
		for _, which := range ids() {
			x := open(t, party, which, 4)
			x.send([]byte("hey"))
			b, e := x.got(seal.Note{Party: party, Ledger: which, Way: seal.Tell, Seq: 5, Body: []byte("yes")})
			if e != api.OK || string(b) != "yes" || x.l.Busy() || x.l.Seq() != 5 {
				t.Errorf("P16.1: Got of party %d of ledger %d: %q, %d", party, which, b, e)
			}
		}
	}
	for _, size := range sizes() {
		x := open(t, 3, 1, 4)
		x.send([]byte("hey"))
		if b, e := x.got(x.told(some(size, 1))); e != api.OK || string(b) != string(some(size, 1)) {
			t.Errorf("P16.1: Got of %d bytes: %d bytes, %d", size, len(b), e)
		}
	}
}

// others are numbers beside n; such, too, as are n in fewer bytes.
func others(n int) []int {
	return []int{n - 1, n + 1, -n - 1, n ^ 1, n ^ 2, n + 16, n + 256, n - 256, n + 1<<16, n + 1<<32, n - 1<<32, n ^ math.MinInt, math.MaxInt, math.MinInt}
}

// TestGotOfOthers changes one number of what is due, all else as it is.
func TestGotOfOthers(t *testing.T) {
	for _, busy := range []bool{true, false} {
		x := open(t, 3, 1, 4)
		x.ends(2)
		if busy {
			x.send([]byte("hey"))
		}
		check := func(what string, n seal.Note, want api.Errno) {
			t.Helper()
			if b, e := x.got(n); e != want || len(b) != 0 || x.l.Busy() != busy {
				t.Errorf("P16.1: Got of %s, Busy %t: %q, %d, not %d", what, busy, b, e, want)
			}
		}
		for _, k := range others(3) {
			n := x.told([]byte("yes"))
			n.Party = k
			check("another party's", n, api.ErrParty)
		}
		for _, k := range others(1) {
			n := x.told([]byte("yes"))
			n.Ledger = k
			check("another ledger's", n, api.ErrParty)
		}
		for _, k := range append(others(1), 0) {
			n := x.told([]byte("yes"))
			n.Way = k
			check("another way", n, api.ErrParty)
		}
		for _, k := range append(others(x.p.seq()), 0, -1, 1, 5, 8, topmost) {
			n := x.told([]byte("yes"))
			n.Seq = k
			check("another number", n, api.ErrStale)
		}
		if b, e := x.got(x.told([]byte("yes"))); (e == api.OK) != busy || (string(b) == "yes") != busy {
			t.Errorf("P16.1: Got of what is due, behind all these, Busy %t: %q, %d", busy, b, e)
		}
	}
}

// TestGotOrder: each choice of what is wrong, with a line that is Busy and one that
// is not. The party, the ledger and the way are told ahead of the number.
func TestGotOrder(t *testing.T) {
	for wrong := range 32 {
		x := open(t, 3, 1, 4)
		if wrong&1 == 0 {
			x.send([]byte("hey"))
		}
		n := x.told([]byte("yes"))
		want := api.OK
		if wrong&1 != 0 {
			want = api.ErrStale
		}
		if wrong&2 != 0 {
			n.Seq, want = n.Seq+1, api.ErrStale
		}
		if wrong&4 != 0 {
			n.Way, want = seal.Ask, api.ErrParty
		}
		if wrong&8 != 0 {
			n.Ledger, want = 0, api.ErrParty
		}
		if wrong&16 != 0 {
			n.Party, want = 2, api.ErrParty
		}
		busy := x.l.Busy()
		b, e := x.got(n)
		if e != want || (e != api.OK && (len(b) != 0 || x.l.Busy() != busy)) {
			t.Errorf("P16.1: Got with %05b wrong: %q, %d, not %d", wrong, b, e, want)
		}
	}
}

// TestGotBeforeSend: with nothing ever sent, nothing is due; not with the number that
// New was handed, and not with the one behind it.
func TestGotBeforeSend(t *testing.T) {
	for _, seq := range []int{0, 1, 4, topmost - 1, topmost} {
		x := open(t, 0, 0, seq)
		for _, k := range append(others(seq), seq, 0, 1) {
			n := x.told([]byte("yes"))
			n.Seq = k
			if b, e := x.got(n); e != api.ErrStale || len(b) != 0 {
				t.Errorf("P16.1: Got of %d, where none was sent behind %d: %q, %d", k, seq, b, e)
			}
		}
		// A note of nothing but zeroes is not way Tell.
		if _, e := x.got(seal.Note{}); e != api.ErrParty {
			t.Errorf("P16.1: Got of a note of zeroes: %d", e)
		}
	}
}

// TestGotTwice: what is told twice is answered once, by the same note and by another
// one of its number, behind later ones too.
func TestGotTwice(t *testing.T) {
	x := open(t, 3, 1, 4)
	var told []seal.Note
	for k := range 20 {
		x.send(some(k, 1))
		for _, n := range told {
			if b, e := x.got(n); e != api.ErrStale || len(b) != 0 || !x.l.Busy() {
				t.Errorf("P16.3: number %d is told again, %d waits: %q, %d", n.Seq, x.l.Seq(), b, e)
			}
		}
		n := x.told(some(k, 2))
		if _, e := x.got(n); e != api.OK {
			t.Errorf("P16.1: Got of what is due: %d", e)
		}
		told = append(told, n)
		for _, n := range append(told, x.told(nil), x.told([]byte("other"))) {
			if b, e := x.got(n); e != api.ErrStale || len(b) != 0 || x.l.Busy() {
				t.Errorf("P16.3: number %d is told again: %q, %d", n.Seq, b, e)
			}
		}
	}
}

// TestGotOfOwnNote: what the line sent itself is no answer.
func TestGotOfOwnNote(t *testing.T) {
	x := open(t, 3, 1, 4)
	n, _ := x.send([]byte("hey"))
	if b, e := x.got(n); e != api.ErrParty || len(b) != 0 {
		t.Errorf("P16.1: Got of what was sent: %q, %d", b, e)
	}
	x.got(x.told(nil))
	if b, e := x.got(n); e != api.ErrParty || len(b) != 0 {
		t.Errorf("P16.1: Got of what was sent: %q, %d", b, e)
	}
}
