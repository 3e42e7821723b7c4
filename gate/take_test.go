package gate_test

import (
	"bytes"
	"math"
	"slices"
	"testing"

	"counterfoil/api"
	"counterfoil/gate"
	"counterfoil/ledger"
	"counterfoil/meter"
	"counterfoil/req"
	"counterfoil/seal"
	"counterfoil/vault"
)

// TestKnownNote holds a note, and the one that answers it, against bytes that were
// worked out by another program.
func TestKnownNote(t *testing.T) {
	x := over(t, conf(12), 1, []byte{1, 2, 3}, sized(t, conf(12)), "by hand")
	for range 2 {
		if b, e := x.take(unhex(knownAsk), 7); e != api.OK || !bytes.Equal(b, unhex(knownTell)) {
			t.Fatalf("P15.2: %d, %x", e, b)
		}
		x.holds()
	}
	if x.v.Ledger().Has(1, 0) != 55 || x.v.Ledger().Clock() != 7 {
		t.Errorf("P15.2: %d at %d", x.v.Ledger().Has(1, 0), x.v.Ledger().Clock())
	}
}

// TestTake asks each ledger by each of its parties, however many there are: what is
// told is opened by the project's own calls.
func TestTake(t *testing.T) {
	for which := range 2 {
		for n := 2; n <= 16; n++ {
			x := paired(t, ledger.Conf{Start: rows(n, 100), Events: 100}, which, "each party")
			for k := range 3 * n {
				party := k % n
				to := (party + 1) % n
				in := x.next(party, give(to, k+1), lock(to, 1, "s", 500), claim(k, "s"), refund(400))
				was := x.m.All()
				out, e := x.g.Take(in.bytes(), 10+k)
				answer, f := x.w.Handle(party, in.seq, 10+k, in.body)
				told, g := seal.Open(table, gate.Keys(table, x.seed, party, which), out)
				if e != api.OK || f != api.OK || g != api.OK || told.Party != party || told.Ledger != which || told.Way != seal.Tell || told.Seq != k/n+1 {
					t.Fatalf("P15.2: ledger %d, %d parties, note %d: %d, %d, %v", which, n, k, e, g, told)
				}
				said, receipt, h := gate.Split(told.Body)
				if h != api.OK || !bytes.Equal(said, answer) || !bytes.Equal(receipt, gate.Receipt(table, gate.Stamp(table, x.seed, which), party, which, told.Seq, said)) {
					t.Fatalf("P15.2: ledger %d, %d parties, note %d: %d, %x, not %x, %x", which, n, k, h, said, answer, receipt)
				}
				was[meter.Served]++
				if !slices.Equal(x.m.All(), was) {
					t.Fatalf("P15.2: ledger %d, %d parties, note %d: %v, not %v", which, n, k, x.m.All(), was)
				}
				x.counts = was
			}
			x.holds()
		}
	}
}

// TestKinds asks for each kind of request, for such as are refused by the ledger,
// and for none.
func TestKinds(t *testing.T) {
	for which := range 2 {
		x := paired(t, conf(40), which, "kinds")
		for k, l := range [][]req.Req{
			nil, {give(1, 5)}, {give(1, 5), give(2, 7)}, {lock(1, 9, "a", 60)}, {claim(0, "a")}, {claim(0, "b")}, {refund(0)}, {refund(1)},
			{give(9, 5)}, {give(0, 5)}, {give(1, 0)}, {give(1, 5000)}, {lock(1, 9, "c", 1), lock(2, 1, "c", 30), claim(1, "c"), refund(1)}, {refund(399)}, {},
		} {
			for party := range 3 {
				a, e := req.DecodeAnswer(x.answered(x.next(party, l...), 10+k))
				if e != api.OK || a.Clock != 10+k || len(a.Replies) != len(l) {
					t.Fatalf("P15.2: batch %d of %d: %d, %v", k, party, e, a)
				}
				x.holds()
			}
		}
	}
}

// TestClocks: what the clock is, also far from a tick, is the vault's thing.
func TestClocks(t *testing.T) {
	x := paired(t, conf(12), 0, "clocks")
	for _, clock := range []int{0, -1, 5, 4, math.MinInt, math.MaxInt, 1<<40 + 1, 6, 1<<32 + 1, 7, 1 << 40, 3, 1<<40 - 1} {
		a, e := req.DecodeAnswer(x.answered(x.next(1, give(0, 1)), clock))
		if e != api.OK || a.Clock != x.w.Ledger().Clock() {
			t.Fatalf("P15.2: at %d: %d, %v", clock, e, a)
		}
		x.holds()
	}
	if n := x.v.Ledger().Clock(); n != 1<<40 {
		t.Errorf("P15.2: the clock is %d", n)
	}
}

// TestSeqs: a Seq of four bytes, up to the greatest one, stands in the note and in
// its receipt.
func TestSeqs(t *testing.T) {
	for _, seq := range []int{1, 255, 256, 257, 65535, 65536, 0x01020304, 1<<24 - 1, 1 << 24, 0xfffefdfc, 1<<31 - 1, 1 << 31, topmost - 1, topmost} {
		for which := range 2 {
			x := over(t, conf(12), which, []byte{7}, lasting(t, 3, 0, seq-1, 0), "seqs")
			n := x.next(1, give(0, 3))
			if n.seq != seq {
				t.Fatalf("P13.3: Last is %d", n.seq-1)
			}
			x.answered(n, 5)
			x.answered(n, 6)
			if seq == topmost {
				x.refused(5, stale, x.ask(1, 1, batch(0)).bytes(), 6)
				x.refused(2, bad, x.ask(1, 0, batch(0)).bytes(), 6)
			} else {
				x.refused(5, stale, x.ask(2, seq+1, batch(0)).bytes(), 6)
				x.answered(x.next(1, give(0, 3)), 7)
				x.refused(5, stale, n.bytes(), 7)
			}
			x.holds()
		}
	}
}

// TestLong answers the longest batch, and as many events as there may be.
func TestLong(t *testing.T) {
	x := paired(t, ledger.Conf{Start: rows(16, 1<<20), Events: 400}, 1, "long")
	for k := range 4 {
		x.answered(x.next(k, slices.Repeat([]req.Req{lock(5, 1, "g", 1<<40)}, 50)...), 5)
	}
	for k := range 200 {
		x.answered(x.next(5, claim(k, "g")), 9)
	}
	longest := slices.Repeat([]req.Req{lock(1, 1, "g", 1<<40)}, 64)
	for party := range 16 {
		a, e := req.DecodeAnswer(x.answered(x.next(party, longest...), 10))
		if e != api.OK || len(a.Events) != 400 || len(a.Replies) != 64 {
			t.Fatalf("P15.2: %d: %d events, %d replies", e, len(a.Events), len(a.Replies))
		}
	}
	x.holds()
}

// TestTwice: a note that comes again is answered as it was, whatever was done
// between; so is another one of the same Seq, as the vault answers it.
func TestTwice(t *testing.T) {
	for which := range 2 {
		x := paired(t, conf(40), which, "twice")
		var asked [3][]byte
		var told [3][]byte
		for k := range 9 {
			for party := range 3 {
				n := x.next(party, give((party+1)%3, 2), lock(1, 1, "t", 90))
				asked[party] = n.bytes()
				x.answered(n, 5+k)
				told[party], _ = x.g.Take(asked[party], 5+k)
				x.counts[served]++
				for who, b := range asked {
					if b == nil {
						continue
					}
					if again, e := x.take(b, 70+k); e != api.OK || !bytes.Equal(again, told[who]) {
						t.Fatalf("P15.2: the note of %d again: %d, %x, not %x", who, e, again, told[who])
					}
				}
				n.body = batch(2, give(0, 9))
				if again, e := x.take(n.bytes(), 5+k); e != api.OK || !bytes.Equal(again, told[party]) {
					t.Fatalf("P15.2: another note of that Seq: %d, %x, not %x", e, again, told[party])
				}
				n.body = []byte("no batch")
				if again, e := x.take(n.bytes(), 5+k); e != api.OK || !bytes.Equal(again, told[party]) {
					t.Fatalf("P15.2: a note of that Seq, with no batch: %d, %x, not %x", e, again, told[party])
				}
			}
			x.holds()
			switch k % 3 {
			case 0:
				x.crash()
				x.open()
			case 1:
				x.renew()
			}
		}
		if x.v.Ledger().Clock() != 13 {
			t.Errorf("P15.2: the clock is %d", x.v.Ledger().Clock())
		}
	}
}

// TestCutOff loses the power at each step of a batch: it is asked again behind it,
// and answered as it would have been.
func TestCutOff(t *testing.T) {
	for fuse := range 9 {
		for _, keep := range [][]bool{nil, {true}, {false, true}, {true, true, true}} {
			x := paired(t, conf(40), 1, "cut off")
			x.answered(x.next(1, give(0, 1)), 3)
			n := x.next(0, give(1, 5), lock(1, 5, "s", 90), lock(1, 6, "s", 90))
			x.fuse(fuse)
			_, e := x.take(n.bytes(), 7)
			if e == api.ErrDown {
				x.refused(13, refused, n.bytes(), 7)
				x.refused(13, refused, x.next(2).bytes(), 7)
			}
			x.fuse(-1)
			x.crash(keep...)
			x.open()
			x.answered(n, 7)
			x.answered(n, 8)
			x.holds()
		}
	}
}

// TestNew: a new gate changes nothing of the vault and of the meter, whatever state
// they are in.
func TestNew(t *testing.T) {
	x := paired(t, conf(5), 0, "new")
	for k := range 12 {
		x.answered(x.next(k%3, give((k+1)%3, 1), lock(1, 1, "n", 90)), k)
		for which := -1; which < 3; which++ {
			gate.New(table, which, x.seed, x.v, x.m)
			x.holds()
		}
	}
	x.fuse(0)
	x.refused(13, refused, x.next(0).bytes(), 50)
	for which := range 2 {
		gate.New(table, which, x.seed, x.v, x.m)
		x.holds()
	}
}

// TestNewOverMany: so does one ahead of a ledger of as many escrows as there may be,
// whoever locked them, that could be refunded by now, or were.
func TestNewOverMany(t *testing.T) {
	for _, each := range []int{1, 4} {
		x := paired(t, ledger.Conf{Start: rows(5, 1000), Events: 400}, 1, "many escrows")
		for k := 0; k < 200; k += 50 {
			x.answered(x.next(k/50%each, slices.Repeat([]req.Req{lock(4, 1, "m", 20)}, 50)...), 9)
		}
		x.answered(x.next(4), 30)
		if y, ok := x.v.Ledger().Escrow(199); !ok || y.State != 0 {
			t.Fatalf("P12.2: the last escrow: %v", y)
		}
		for k := range 200 {
			x.renew()
			party := k / 50 % each
			x.answered(x.next(party, refund(k)), 31)
			x.refused(14, bad, x.ask(5, 1, batch(0)).bytes(), 31)
		}
		x.renew()
		for party := range 5 {
			x.answered(x.next(party, refund(party)), 32)
		}
		x.holds()
	}
}

// TestTwoGates: both ledgers' gates on one meter, each with its own vault; and two
// gates ahead of one vault.
func TestTwoGates(t *testing.T) {
	x, y := paired(t, conf(12), 0, "cash"), paired(t, conf(12), 1, "securities")
	y.m = x.m
	y.renew()
	for k := range 20 {
		a, b := x, y
		if k%3 == 0 {
			a, b = y, x
		}
		n := a.next(k%3, give(0, 1))
		b.counts = b.m.All()
		b.refused(2, bad, n.bytes(), k)
		a.counts = a.m.All()
		a.answered(n, k)
		a.holds()
	}
	x.counts = x.m.All()
	other := gate.New(table, 0, []byte("another seed"), x.v, meter.New())
	n := x.next(1, give(0, 2))
	if b, e := other.Take(n.bytes(), 30); e != api.ErrMac || len(b) > 0 {
		t.Errorf("P15.2: %d, %x", e, b)
	}
	x.holds()
	n.key = keyOf([]byte("another seed"), 1, 0)
	b, e := other.Take(n.bytes(), 30)
	answer, f := x.w.Handle(1, n.seq, 30, n.body)
	n.way, n.body = 1, slices.Concat(answer, receiptOf(stampOf([]byte("another seed"), 0), 1, 0, n.seq, answer))
	if e != api.OK || f != api.OK || !bytes.Equal(b, n.bytes()) {
		t.Errorf("P15.2: %d, %d, %x, not %x", e, f, b, n.bytes())
	}
	x.holds()
}

// TestSeeds: the seed may be of any length.
func TestSeeds(t *testing.T) {
	for _, size := range seedSizes() {
		for which := range 2 {
			x := over(t, conf(12), which, some(size, 7), sized(t, conf(12)), "seeds")
			for party := range 3 {
				n := x.next(party, give(0, 1))
				x.answered(n, 4)
				n.key = keyOf(append(some(size, 7), 1), party, which)
				n.seq = 2
				x.refused(4, bad, n.bytes(), 4)
			}
			x.holds()
		}
	}
}

// TestLater: the vault may be told more beside the gate.
func TestLater(t *testing.T) {
	x := paired(t, conf(12), 1, "later")
	for k := range 5 {
		x.answered(x.next(0, give(1, 1)), k)
		for _, v := range []*vault.Vault{x.v, x.w} {
			if _, e := v.Handle(0, 2*k+2, k, batch(0, give(2, 1))); e != api.OK {
				t.Fatalf("P13.2: %d", e)
			}
		}
		x.refused(5, stale, x.ask(0, 2*k+1, batch(0)).bytes(), k)
		x.answered(x.ask(0, 2*k+2, batch(0)), k)
		x.holds()
	}
}
