package ledger

import (
	"math/rand"
	"testing"

	"counterfoil/req"
)

// begins are beginnings for long runs.
func begins() []Conf {
	return []Conf{
		conf(1), conf(2), conf(7), conf(40), conf(400),
		{[][]int{{most}, {0}}, 60},
		{[][]int{{most / 2, 3}, {most / 2, most - 3}}, 400},
		{rows(16, 4, 9), 400},
	}
}

// anyAmount is a small one, one near what party has, or now and then another.
func anyAmount(r *rand.Rand, p *plain, party, asset int) int {
	switch r.Intn(8) {
	case 0:
		return p.has(party, asset) + r.Intn(3) - 1
	case 1:
		return []int{-1, 0, most, most + 1}[r.Intn(4)]
	}
	return r.Intn(6)
}

// anyReq is some request of party, most of them near what is done.
func anyReq(r *rand.Rand, p *plain, party int) req.Req {
	parties, assets := len(p.free), len(p.free[0])
	to, asset := r.Intn(parties), r.Intn(assets)
	if r.Intn(20) == 0 {
		to, asset = r.Intn(parties+2)-1, r.Intn(assets+2)-1
	}
	c := "stu"[r.Intn(3):][:1]
	q := []req.Req{
		give(to, asset, anyAmount(r, p, party, asset)),
		lock(to, asset, anyAmount(r, p, party, asset), c, p.clock+r.Intn(6)-1),
		claim(r.Intn(len(p.escrows)+2)-1, c),
		refund(r.Intn(len(p.escrows)+2) - 1),
	}[r.Intn(4)]
	if r.Intn(40) == 0 {
		f := fields()[r.Intn(len(fields()))]
		f.set(&q, r.Intn(f.choices))
	}
	return q
}

// anyStep is some call of Apply.
func anyStep(r *rand.Rand, p *plain) step {
	s := step{party: r.Intn(len(p.free)), clock: p.clock + r.Intn(4) - 1}
	if r.Intn(30) == 0 {
		s.party = r.Intn(len(p.free)+2) - 1
	}
	if r.Intn(30) == 0 {
		s.clock = nones[r.Intn(len(nones))] % (1 << 20)
	}
	s.batch.Seen = r.Intn(len(p.events)+4) - 1
	n := r.Intn(5)
	if r.Intn(40) == 0 {
		n = 60 + r.Intn(9)
	}
	for range n {
		s.batch.Reqs = append(s.batch.Reqs, anyReq(r, p, s.party))
	}
	return s
}

// TestManySteps makes many steps, one behind the other, now and then of a ledger
// that was saved and loaded: each asset's Total is what it was at first.
func TestManySteps(t *testing.T) {
	r := rand.New(rand.NewSource(12))
	for _, c := range append(begins(), begins()...) {
		x := made(t, c)
		var first []int
		for asset := range c.Start[0] {
			first = append(first, x.p.total(asset))
		}
		for range 400 {
			x.apply(t, anyStep(r, x.p))
			for asset, n := range first {
				if x.l.Total(asset) != n {
					t.Fatalf("P12.6: Total(%d): %d, not %d", asset, x.l.Total(asset), n)
				}
			}
			if r.Intn(20) == 0 {
				y, ok := loads(t, c, saved(t, x.l))
				if !ok {
					t.Fatal("P12.4: a Save is not loaded")
				}
				x = y
			}
		}
		x.holds(t, "many steps")
		if len(x.p.events) > c.Events || len(x.p.events) < min(c.Events, 30)/2 {
			t.Errorf("P12.2: %d events of %d", len(x.p.events), c.Events)
		}
	}
}

// TestByOnes: the requests that were done, asked one by one at their clocks, make
// the same ledger.
func TestByOnes(t *testing.T) {
	r := rand.New(rand.NewSource(1212))
	for _, c := range begins() {
		x := made(t, c)
		y := made(t, c)
		for range 200 {
			s := anyStep(r, x.p)
			for i, reply := range x.apply(t, s).Replies {
				if reply.Code == 0 {
					y.plays(t, asks(s.party, x.p.clock, s.batch.Reqs[i]))
				}
			}
		}
		y.apply(t, asks(0, x.p.clock))
		if string(saved(t, x.l)) != string(saved(t, y.l)) {
			t.Errorf("P12.6: what is refused changes something, of %v", c)
		}
	}
}

// TestSameAnswers makes the same steps of two ledgers: both answer the same.
func TestSameAnswers(t *testing.T) {
	r := rand.New(rand.NewSource(5))
	for _, c := range begins() {
		x, y := made(t, c), made(t, c)
		for range 100 {
			s := anyStep(r, x.p)
			if a, b := x.apply(t, s), y.apply(t, s); !alike(a, b) {
				t.Fatalf("P0.5: %v: %v and %v", s, a, b)
			}
		}
	}
}
