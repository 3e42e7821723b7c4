package gate_test

import (
	"bytes"
	"math/rand"
	"testing"

	"counterfoil/api"
	"counterfoil/ledger"
	"counterfoil/req"
)

// begins are ledgers of some parties, with much room and with little.
func begins() []ledger.Conf {
	return []ledger.Conf{conf(12), conf(60), {Start: rows(2, 30), Events: 1}, {Start: rows(5, 100), Events: 25}, {Start: rows(16, 3), Events: 400}}
}

// anyReqs are some requests, of which many can be done.
func anyReqs(r *rand.Rand, parties int) []req.Req {
	var l []req.Req
	for range r.Intn(4) {
		id, c := r.Intn(12), string(rune('a'+r.Intn(2)))
		switch r.Intn(5) {
		case 0, 1:
			l = append(l, give(r.Intn(parties+1), r.Intn(9)))
		case 2:
			l = append(l, lock(r.Intn(parties), 1+r.Intn(5), c, 1+r.Intn(400)))
		case 3:
			l = append(l, claim(id, c))
		default:
			l = append(l, refund(id))
		}
	}
	return l
}

// anyNote is a note that is in order, mostly, or has something wrong.
func anyNote(r *rand.Rand, x *pair) []byte {
	parties := len(x.c.Start)
	n := x.next(r.Intn(parties), anyReqs(r, parties)...)
	switch r.Intn(24) {
	case 0, 1, 2:
		n.seq--
	case 3:
		n.seq = r.Intn(6)
	case 4:
		n.key = x.key(r.Intn(16))
	case 5:
		n.key = keyOf(x.seed, n.party, 1-n.which)
	case 6:
		n.party = r.Intn(18)
		n.key = x.key(n.party)
	case 7:
		n.which = 1 - n.which
	case 8:
		n.way = 1
	case 9:
		n.body = n.body[:r.Intn(len(n.body)+1)]
	}
	b := n.bytes()
	switch r.Intn(24) {
	case 0:
		b[r.Intn(len(b))] ^= 1 << r.Intn(8)
	case 1:
		b = b[:r.Intn(len(b))]
	case 2:
		b = some(r.Intn(100), r.Intn(1000))
	}
	return b
}

// run is a row of calls on a pair, and all that came of it.
type run struct {
	x    *pair
	r    *rand.Rand
	was  []byte // some note that was taken
	now  int
	told []byte
}

func (x *run) step() {
	x.now += x.r.Intn(9) - 2
	b := anyNote(x.r, x.x)
	if x.r.Intn(6) == 0 {
		b = x.was
	}
	if x.r.Intn(3) == 0 {
		x.was = b
	}
	out, e := x.x.take(b, x.now)
	x.told = append(append(x.told, out...), byte(e))
	switch x.r.Intn(40) {
	case 0:
		x.x.renew()
	case 1:
		x.x.fuse(x.r.Intn(12))
	case 2:
		x.again()
	}
	if e == api.ErrDown && x.r.Intn(3) == 0 {
		x.again()
	}
}

// again loses the power, and opens all anew.
func (x *run) again() {
	var keep []bool
	for range x.r.Intn(5) {
		keep = append(keep, x.r.Intn(2) == 0)
	}
	x.x.fuse(-1)
	x.x.crash(keep...)
	x.x.open()
}

// rowed makes a row of so many steps.
func rowed(t *testing.T, c ledger.Conf, which, steps int, from int64) *run {
	t.Helper()
	x := &run{x: paired(t, c, which, "a row of calls"), r: rand.New(rand.NewSource(from))}
	for k := range steps {
		x.step()
		if k%8 == 0 {
			x.x.holds()
		}
	}
	x.x.holds()
	return x
}

// TestManyTakes holds long rows of notes against the chapter's words.
func TestManyTakes(t *testing.T) {
	for i, c := range begins() {
		for which := range 2 {
			for k := range 6 {
				x := rowed(t, c, which, 400, int64(100*i+10*which+k))
				for _, counter := range []int{bad, stale, served, refused} {
					if x.x.m.Get(counter) == 0 {
						t.Errorf("a row of calls had nothing of counter %d", counter)
					}
				}
			}
		}
	}
}

// TestSameTakes: the same rows of calls answer the same.
func TestSameTakes(t *testing.T) {
	for i, c := range begins() {
		a, b := rowed(t, c, i%2, 200, int64(i)), rowed(t, c, i%2, 200, int64(i))
		if !bytes.Equal(a.told, b.told) {
			t.Errorf("P0.5: the same calls on ledger %d answer another thing", i)
		}
	}
}

// TestTotals: whatever comes, no asset is more or less than it was at first (P0.8).
func TestTotals(t *testing.T) {
	for k := range 10 {
		x := rowed(t, conf(60), k%2, 200, int64(1000+k)).x
		if l := x.v.Ledger(); l.Total(0) != 1050 || l.Total(1) != 10 {
			t.Errorf("P15.2: Totals %d, %d", l.Total(0), l.Total(1))
		}
	}
}
