package vault

import (
	"bytes"
	"fmt"
	"math/rand"
	"slices"
	"testing"

	"counterfoil/api"
	"counterfoil/ledger"
	"counterfoil/req"
)

// begins are beginnings for long runs.
func begins() []ledger.Conf {
	return []ledger.Conf{
		conf(3), conf(40), conf(400),
		{Start: rows(2, 1, 9), Events: 1}, {Start: rows(2, 1, 1<<61), Events: 60}, {Start: rows(16, 4, 9), Events: 400},
	}
}

// anyReqs are some requests, most of them near what is done.
func anyReqs(r *rand.Rand, p *plain) []req.Req {
	parties, ids := len(p.lasts), len(p.l.Events())
	n := r.Intn(4)
	if r.Intn(10) == 0 {
		n = 60 + r.Intn(5)
	}
	var l []req.Req
	for range n {
		c := "stu"[r.Intn(3):][:1]
		q := []req.Req{
			give(r.Intn(parties), r.Intn(4)),
			lock(r.Intn(parties), r.Intn(4), c, p.l.Clock()+r.Intn(6)),
			claim(r.Intn(ids+1), c),
			refund(r.Intn(ids + 1)),
		}[r.Intn(4)]
		l = append(l, q)
	}
	return l
}

// call is one of Handle.
type call struct {
	party, seq, clock int
	batch             []byte
}

// anyCall is some call: most of them are of a number that is due, and of bytes that
// are a batch.
func anyCall(r *rand.Rand, p *plain) call {
	c := call{party: r.Intn(len(p.lasts)), clock: p.l.Clock() + r.Intn(5) - 1}
	if r.Intn(30) == 0 {
		c.party = r.Intn(len(p.lasts)+2) - 1
	}
	c.seq = p.last(c.party) + 1
	if r.Intn(4) == 0 {
		c.seq += r.Intn(4) - 2
	}
	if r.Intn(40) == 0 {
		c.clock = nones[r.Intn(len(nones))] % (1 << 20)
	}
	c.batch = batch(r.Intn(len(p.l.Events())+4), anyReqs(r, p)...)
	if r.Intn(20) == 0 {
		l := changes(c.batch[:min(len(c.batch), 20)])
		c.batch = l[r.Intn(len(l))]
	}
	return c
}

// run is a pair, and the plain machine that is given what was answered.
type run struct {
	*pair
	r       *rand.Rand
	machine *ledger.Ledger
	done    map[[2]int]int // how often a number of a party was handled
}

// TestManyCalls makes many calls, one behind the other, with the power lost now and
// then: behind all of them the ledger is the plain machine, to which each number
// was given once.
func TestManyCalls(t *testing.T) {
	for i, c := range begins() {
		t.Run(fmt.Sprint(i), func(t *testing.T) {
			t.Parallel()
			r := rand.New(rand.NewSource(int64(1300 + i)))
			for range 4 {
				machine, _ := ledger.New(table, c)
				x := run{paired(t, c, fmt.Sprint("many calls of ", i)), r, machine, map[[2]int]int{}}
				for range 250 {
					x.step()
				}
				x.open()
				if x.p.store.gen == 0 || len(x.done) < 80 || len(x.p.l.Events()) == 0 {
					t.Errorf("%s: Gen %d, %d batches, %d events", x.what, x.p.store.gen, len(x.done), len(x.p.l.Events()))
				}
			}
		})
	}
}

// step makes one call, and if it is cut off, a Crash and an Open.
func (x *run) step() {
	x.t.Helper()
	if x.r.Intn(5) == 0 {
		x.fuse(x.r.Intn(12))
	}
	c := anyCall(x.r, x.p)
	due := c.seq == x.p.last(c.party)+1
	got, e := x.handle(c.party, c.seq, c.clock, c.batch)
	switch {
	case e == api.ErrDown:
		x.refused(api.ErrDown, c.party, c.seq, c.clock, c.batch)
		x.crash(x.keep())
		x.open()
		if x.p.last(c.party) == c.seq {
			x.apply(c, nil)
		}
		if got, e = x.handle(c.party, c.seq, c.clock, c.batch); due && e == api.OK && x.v.Served() > 0 {
			x.apply(c, got)
		}
	case e == api.OK && due:
		x.apply(c, got)
	}
	if x.r.Intn(25) == 0 {
		x.crash(x.keep())
		x.open()
	}
	a, _ := x.machine.Save()
	if b, _ := x.v.Ledger().Save(); !bytes.Equal(a, b) {
		x.t.Fatalf("P13.5: %s:\n%x, not the plain machine's\n%x", x.what, b, a)
	}
}

// keep is some choice for a Crash.
func (x *run) keep() []bool {
	l := slices.Repeat([]bool{true}, x.r.Intn(9))
	for i := range l {
		l[i] = x.r.Intn(2) > 0
	}
	return l
}

// apply gives the machine what was handled, and holds its answer against got, if
// there is one.
func (x *run) apply(c call, got []byte) {
	x.t.Helper()
	b, _ := req.DecodeBatch(c.batch)
	want := laidAnswer(x.machine.Apply(c.party, c.clock, b))
	if got != nil && !bytes.Equal(got, want) {
		x.t.Fatalf("P13.5: %s: %x, not the plain machine's %x", x.what, got, want)
	}
	if x.done[[2]int{c.party, c.seq}]++; x.done[[2]int{c.party, c.seq}] != 1 {
		x.t.Fatalf("P13.5: %s: number %d of party %d is handled twice", x.what, c.seq, c.party)
	}
}

// TestSameCalls makes the same calls of two Vaults: both answer the same, and write
// the same.
func TestSameCalls(t *testing.T) {
	r := rand.New(rand.NewSource(5))
	for _, c := range begins() {
		x, y := paired(t, c, "the one"), paired(t, c, "the other one")
		for range 60 {
			k := anyCall(r, x.p)
			a, e := x.handle(k.party, k.seq, k.clock, k.batch)
			b, f := y.handle(k.party, k.seq, k.clock, k.batch)
			if e != f || !bytes.Equal(a, b) || !bytes.Equal(contents(x.d), contents(y.d)) {
				t.Fatalf("P0.5: %v: %x, %d and %x, %d", k, a, e, b, f)
			}
		}
	}
}
