package gate_test

import (
	"bytes"
	"math"
	"slices"
	"testing"

	"counterfoil/api"
	"counterfoil/gate"
	"counterfoil/ledger"
	"counterfoil/meter"
)

// scene is a pair of which each party but the last one has asked already.
func scene(t *testing.T, which int) *pair {
	t.Helper()
	x := paired(t, conf(12), which, "a scene")
	x.answered(x.next(0, give(1, 5), lock(1, 9, "a", 60)), 3)
	x.answered(x.next(1, claim(0, "a")), 7)
	x.answered(x.next(0, give(2, 1)), 11)
	return x
}

// crammed is a pair whose journal has no room left, not even behind a new picture,
// for there is no Gen left.
func crammed(t *testing.T, which int) *pair {
	t.Helper()
	x := over(t, conf(12), which, []byte("the seed of all"), lasting(t, topmost, 2, 1, 0), "crammed")
	for n := 2; ; n++ {
		_, e := x.v.Handle(0, n+1, 11, batch(0))
		_, f := x.w.Handle(0, n+1, 11, batch(0))
		if e == api.ErrFull && f == api.ErrFull {
			return x
		}
		if e != api.OK || f != api.OK || n > 500 {
			t.Fatalf("P13.2: %d, %d", e, f)
		}
	}
}

// TestNoNotes takes what is no note.
func TestNoNotes(t *testing.T) {
	m := meter.New()
	x := scene(t, 1)
	g := gate.New(table, 1, []byte("the seed of all"), x.v, m)
	if b, e := g.Take([]byte("bytes that are none"), 5); e != api.ErrForm || len(b) > 0 || !slices.Equal(m.All(), []int{0, 0, 1, 0, 0, 0, 0, 0}) {
		t.Errorf("P15.2: %d, %v", e, m.All())
	}
	good := x.next(2, give(0, 1)).bytes()
	for n := range good {
		x.refused(2, bad, good[:n], 20)
		x.refused(2, bad, good[n+1:], 20)
		x.refused(2, bad, slices.Concat(good[:n], good[n+1:]), 20)
		x.refused(2, bad, slices.Insert(bytes.Clone(good), n, 0), 20)
	}
	for _, more := range []int{1, 2, 32, 44, len(good), 60000} {
		x.refused(2, bad, append(bytes.Clone(good), make([]byte, more)...), 20)
	}
	x.refused(2, bad, nil, 20)
	x.refused(2, bad, []byte{}, 20)
	for n := range 100 {
		x.refused(2, bad, make([]byte, n), 20)
		x.refused(2, bad, some(n, 8), 20)
	}
	x.refused(2, bad, make([]byte, 1<<20), 20)
	x.holds()
	x.answered(x.next(2, give(0, 1)), 20)
}

// TestTurned takes a note of which each byte is each other one, with the tag that
// it had, and with the one that fits whoever it is of.
func TestTurned(t *testing.T) {
	x := scene(t, 0)
	good := x.next(1, give(0, 1)).bytes()
	for i := range good {
		for c := range 256 {
			if good[i] == byte(c) {
				continue
			}
			b := bytes.Clone(good)
			b[i] = byte(c)
			e := api.ErrMac
			if n, ok := formOf(b); !ok || n.which != 0 || n.way != 0 || n.party < 3 && n.seq == 0 {
				e = api.ErrForm
			} else if n.party >= 3 {
				e = api.ErrParty
			}
			x.refused(e, bad, b, 20)
		}
	}
	x.holds()
	x.answered(x.next(1, give(0, 1)), 20)
}

// TestTurnedAndSealed takes a note of which each byte ahead of the tag is each
// other one, sealed anew by the party that it tells.
func TestTurnedAndSealed(t *testing.T) {
	for i := range 26 {
		var x *pair
		for c := range 256 {
			if x == nil || x.v.Served() > 2 {
				x = scene(t, 1)
			}
			b := x.next(1, give(0, 1)).bytes()
			b[i] = byte(c)
			text := b[:len(b)-32]
			copy(b[len(text):], tagOf(keyOf(x.seed, int(b[1]), int(b[2])), text))
			x.take(b, 20)
			if i < 4 || i > 7 && i < 12 {
				x.holds()
			}
		}
	}
}

// keys are such as are not the one that the party has.
func keys(x *pair, party int) [][]byte {
	l := [][]byte{nil, {0}, x.seed, x.stamp(), stampOf(x.seed, 1-x.which), keyOf(x.seed, party, 1-x.which), keyOf(x.seed, x.which, party+2), make([]byte, 32)}
	for i := range 256 {
		if i != party {
			l = append(l, keyOf(x.seed, i, x.which))
		}
	}
	for _, seed := range [][]byte{nil, {1}, append(bytes.Clone(x.seed), 1), x.seed[1:], x.seed[:len(x.seed)-1], x.key(party), some(100, 9)} {
		l = append(l, keyOf(seed, party, x.which))
	}
	own := x.key(party)
	for i := range 32 {
		for bit := range 8 {
			b := bytes.Clone(own)
			b[i] ^= 1 << bit
			l = append(l, b)
		}
	}
	return append(l, own[:31], own[1:], append(bytes.Clone(own), 1))
}

// TestOtherKeys: what another key has sealed never reaches the vault, be it what is
// due, what was asked already, or what could not be.
func TestOtherKeys(t *testing.T) {
	for which := range 2 {
		x := scene(t, which)
		for party := range 3 {
			for i, key := range keys(x, party) {
				for _, n := range []note{x.next(party, give(0, 1)), x.ask(party, x.v.Last(party), batch(0)), x.ask(party, 9, nil)} {
					n.key = key
					e := api.ErrMac
					if n.seq == 0 {
						e = api.ErrForm
					}
					x.refused(e, bad, n.bytes(), 20)
					if x.v.Ledger().Clock() != 11 || x.v.Served() != 3 {
						t.Fatalf("P15.4: key %d of %d: the vault was reached", i, party)
					}
				}
			}
		}
		x.holds()
		for party := range 3 {
			x.answered(x.next(party, give(0, 1)), 20)
		}
		x.holds()
	}
}

// TestToldBack: what the gate answers asks nothing, and what one gate answers
// another one does not take.
func TestToldBack(t *testing.T) {
	for which := range 2 {
		x := scene(t, which)
		for party := range 3 {
			n := x.next(party, give(0, 1))
			b, _ := x.take(n.bytes(), 20)
			x.refused(2, bad, b, 20)
			n.way = 1
			x.refused(2, bad, n.bytes(), 20)
		}
	}
}

// TestParties: of each party up to the last one that there is a note is taken, and
// of none behind, also where the vault has no power, and where the gate was made
// without power.
func TestParties(t *testing.T) {
	for n := 2; n <= 16; n++ {
		for _, start := range [][][]int{rows(n, 0), rows(n, 9), append(rows(n-1, 0), []int{9})} {
			for which := range 2 {
				x := paired(t, ledger.Conf{Start: start, Events: 30}, which, "parties")
				x.noneBehind(n)
				for party := range n {
					x.answered(x.next(party, give(0, 1)), 5)
				}
				x.noneBehind(n)
				x.fuse(0)
				x.refused(13, refused, x.next(0).bytes(), 5)
				x.noneBehind(n)
				x.renew()
				x.noneBehind(n)
				for party := range n {
					x.refused(13, refused, x.next(party, give(0, 1)).bytes(), 5)
				}
				x.crash()
				x.open()
				x.noneBehind(n)
			}
		}
	}
}

// noneBehind asks by each party from n on.
func (x *pair) noneBehind(n int) {
	x.t.Helper()
	for party := n; party < 16; party++ {
		m := x.ask(party, 1, batch(0))
		x.refused(14, bad, m.bytes(), 8)
		m.key = nil
		x.refused(14, bad, m.bytes(), 8)
		m.seq = 0
		x.refused(14, bad, m.bytes(), 8)
	}
	x.holds()
}

// TestWhich: a gate of a ledger that is none takes no note.
func TestWhich(t *testing.T) {
	for _, which := range []int{-1, 2, 3, 15, 255, 256, 257, 1 << 32, 1<<32 + 1, -255, -256, math.MaxInt, math.MinInt, math.MinInt + 1} {
		x := paired(t, conf(12), which, "which")
		for of := range 2 {
			for party := range 4 {
				for _, key := range [][]byte{x.key(party), keyOf(x.seed, party, of)} {
					x.refused(2, bad, note{party: party, which: of, seq: 1, body: batch(0), key: key}.bytes(), 5)
				}
			}
		}
		x.refused(2, bad, note{which: which, seq: 1, body: batch(0), key: x.key(0)}.bytes(), 5)
		x.holds()
	}
}

// TestOtherLedger: a note to the other ledger is none here, whoever it is of and
// whatever key has sealed it.
func TestOtherLedger(t *testing.T) {
	for which := range 2 {
		x := scene(t, which)
		for party := range 16 {
			for way := range 2 {
				for seq := range 4 {
					for _, key := range [][]byte{x.key(party), keyOf(x.seed, party, 1-which), nil} {
						x.refused(2, bad, note{party: party, which: 1 - which, way: way, seq: seq, body: batch(0), key: key}.bytes(), 20)
					}
				}
			}
		}
		x.holds()
	}
}

// TestStale: of each party one Seq is answered again, and one is due.
func TestStale(t *testing.T) {
	x := scene(t, 1)
	for party := range 3 {
		last := x.v.Last(party)
		for _, seq := range []int{1, 2, 3, 4, 5, 6, 255, 256, 257, 258, 65536, 65537, 1 << 24, 1<<24 + 1, 1<<31 + 2, topmost - 1, topmost} {
			if seq != last && seq != last+1 {
				x.refused(5, stale, x.ask(party, seq, batch(0, give(0, 1))).bytes(), 20)
				x.refused(5, stale, x.ask(party, seq, nil).bytes(), 20)
			}
		}
		for party := range 3 {
			x.answered(x.next(party, give(0, 1)), 20)
		}
	}
	x.holds()
}

// TestNoBatch: a Body that is no batch is Refused, and the same Seq may be asked
// again.
func TestNoBatch(t *testing.T) {
	good := batch(1, give(1, 5), lock(1, 4, "b", 90), claim(0, "b"))
	var bodies [][]byte
	for n := range good {
		bodies = append(bodies, good[:n], good[n+1:])
	}
	bodies = append(bodies, nil, append(bytes.Clone(good), 0), make([]byte, 60000), []byte{0, 0, 65}, []byte{0, 0, 1, 5})
	for which := range 2 {
		x := scene(t, which)
		for party := range 3 {
			for _, body := range bodies {
				x.refused(2, refused, x.ask(party, x.w.Last(party)+1, body).bytes(), 20)
			}
			x.answered(x.ask(party, x.w.Last(party)+1, good), 21+party)
		}
		x.holds()
	}
}

// TestFull: a batch for which the vault has no room is Refused.
func TestFull(t *testing.T) {
	for which := range 2 {
		x := crammed(t, which)
		for range 3 {
			for party := range 3 {
				x.refused(12, refused, x.next(party).bytes(), 20)
			}
			x.answered(x.ask(1, 1, nil), 20)
			x.renew()
		}
		x.open()
		x.refused(12, refused, x.next(1, give(0, 1)).bytes(), 20)
	}
}

// TestDown: without power all that is in order is Refused, and what was answered
// is not answered again.
func TestDown(t *testing.T) {
	for which := range 2 {
		x := scene(t, which)
		x.fuse(0)
		for party := range 3 {
			x.refused(13, refused, x.next(party, give(0, 1)).bytes(), 20)
		}
		x.refused(13, refused, x.ask(0, 2, batch(0)).bytes(), 20)
		x.refused(13, refused, x.ask(0, 7, batch(0)).bytes(), 20)
		x.refused(13, refused, x.ask(0, 3, nil).bytes(), 20)
		x.refused(2, bad, x.ask(0, 0, nil).bytes(), 20)
		// The vault that was told so stays Down, when the power is back.
		x.crash()
		x.renew()
		x.refused(13, refused, x.next(1, give(0, 1)).bytes(), 20)
		x.refused(14, bad, x.next(3, give(0, 1)).bytes(), 20)
		x.open()
		x.answered(x.next(1, give(0, 1)), 20)
	}
}
