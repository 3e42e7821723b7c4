package escrow

import (
	"math/rand"
	"testing"

	"counterfoil/api"
)

// anyText is a secret of three, or some other text.
func anyText(r *rand.Rand) string {
	if r.Intn(8) == 0 {
		return secrets()[r.Intn(len(secrets()))]
	}
	return text("stu"[r.Intn(3):][:1], 32)
}

// anyTime is a tick near now, or now and then some other number.
func anyTime(r *rand.Rand, now int) int {
	if r.Intn(12) == 0 {
		return ticks()[r.Intn(len(ticks()))]
	}
	return now + r.Intn(7) - 1
}

// anyCall is some call of a Book of p, most of them near what is done.
func anyCall(r *rand.Rand, p plain, now int) call {
	parties, assets := len(p.free), len(p.free[0])
	c := call{from: r.Intn(parties), to: r.Intn(parties), asset: r.Intn(assets), amount: 1 + r.Intn(8), clock: anyTime(r, now)}
	if r.Intn(20) == 0 {
		c.from, c.to, c.asset, c.amount = r.Intn(parties+2)-1, r.Intn(parties+2)-1, r.Intn(assets+2)-1, r.Intn(3)-1
	}
	if r.Intn(3) == 0 {
		c.text, c.deadline = hashed(anyText(r)), anyTime(r, now+2)
		if r.Intn(4) == 0 {
			c.amount = p.has(c.from, c.asset) + r.Intn(3) - 1
		}
		return c
	}
	c.kind, c.id, c.text = claim+r.Intn(2), r.Intn(len(p.escrows)+2)-1, anyText(r)
	if x := p.get(c.id); r.Intn(6) != 0 {
		c.from = x.To
		if c.kind == refund {
			c.from = x.From
		}
	}
	return c
}

// TestManyCalls makes many calls of the Book, one behind the other: no Total
// changes, and each escrow is closed once.
func TestManyCalls(t *testing.T) {
	r := rand.New(rand.NewSource(10))
	for _, start := range append(starts(), starts()...) {
		b, want := made(t, start...)
		first := want
		var done [3]int
		closed := make([]int, 1000)
		for step := range 900 {
			c := anyCall(r, want, step/20)
			was := want
			want = tries(t, b, was, c)
			if len(want.escrows) != len(was.escrows) || want.open() != was.open() {
				done[c.kind]++
				if c.kind != lock {
					closed[c.id]++
				}
			}
			for asset := range start[0] {
				if first.total(asset).Cmp(want.total(asset)) != 0 || b.Total(asset) != told(first.total(asset)) {
					t.Fatalf("P10.4: %v: Total(%d): %d", c, asset, b.Total(asset))
				}
			}
		}
		for id, n := range closed {
			if x, ok := b.Get(id); n > 1 || ok && (x.State == Open) != (n == 0) {
				t.Errorf("P10.4: escrow %d was closed %d times: %#v", id, n, x)
			}
		}
		holds(t, b, want, "P10.4: many calls")
		if some := first.total(0).Sign() > 0; some && done[lock]*done[claim]*done[refund] == 0 {
			t.Errorf("P10.4: of %v: %v were done", start, done)
		}
	}
}

// TestManyBeside does so with Gives and Takes of the purse between them: of each
// asset a Total is changed by these alone.
func TestManyBeside(t *testing.T) {
	r := rand.New(rand.NewSource(1010))
	full := 0
	for _, start := range starts() {
		b, want := made(t, start...)
		for step := range 700 {
			c := anyCall(r, want, step/20)
			if r.Intn(6) == 0 {
				c = besides(r, want)
			}
			was := want
			want = tries(t, b, was, c)
			if _, _, e := was.after(c); e == api.ErrRange && (c.kind == claim || c.kind == refund) {
				full++
			}
		}
		holds(t, b, want, "P10.2: many calls beside the Book")
	}
	if full == 0 {
		t.Error("P10.2: no Claim and no Refund found the purse full")
	}
}

// besides is a Give or a Take of the purse, many of them to the bound.
func besides(r *rand.Rand, p plain) call {
	c := call{kind: give + r.Intn(2), from: r.Intn(len(p.free)), asset: r.Intn(len(p.free[0])), amount: r.Intn(9)}
	if r.Intn(3) == 0 {
		c.kind, c.amount = give, most-int(p.pursed(c.asset).Int64())+r.Intn(2)
	} else if r.Intn(3) == 0 {
		c.kind, c.amount = take, p.has(c.from, c.asset)+r.Intn(2)
	}
	return c
}

// TestSameAnswers makes the same calls of two Books: both answer the same.
func TestSameAnswers(t *testing.T) {
	r := rand.New(rand.NewSource(5))
	for _, start := range starts() {
		a, want := made(t, start...)
		b, _ := made(t, start...)
		for step := range 300 {
			c := anyCall(r, want, step/20)
			want, _, _ = want.after(c)
			id, e := c.do(a)
			if other, f := c.do(b); id != other || e != f {
				t.Fatalf("P0.5: %v: %d, %d and %d, %d", c, id, e, other, f)
			}
		}
		holds(t, a, want, "P0.5: the one")
		holds(t, b, want, "P0.5: the other one")
	}
}
