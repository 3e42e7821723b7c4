package escrow

import (
	"fmt"
	"math"
	"slices"
	"testing"

	"counterfoil/api"
	"counterfoil/purse"
)

// nones are numbers of which some are none of a party, an asset or an escrow, on
// either side of each bound of api and of some.
func nones(some int) []int {
	l := []int{
		math.MinInt, math.MinInt + 1, -1 << 32, -256, -16, -some, -1, 0, 1, some - 1, some, some + 1,
		3, 4, 5, 15, 16, 17, 255, 256, 1 << 16, 1 << 32, 1<<32 + 1, math.MaxInt - 1, math.MaxInt,
	}
	slices.Sort(l)
	return slices.Compact(l)
}

// same tells if b has all that want has, and no more: what is asked is what there
// is.
func same(b *Book, want plain) bool {
	if b.Len() != len(want.escrows) || b.Open() != want.open() {
		return false
	}
	for id, x := range want.escrows {
		if got, ok := b.Get(id); !ok || got != x {
			return false
		}
	}
	for asset := range want.free[0] {
		if b.Total(asset) != told(want.total(asset)) || b.Purse().Total(asset) != told(want.pursed(asset)) {
			return false
		}
		for party := range want.free {
			if b.Purse().Has(party, asset) != want.has(party, asset) {
				return false
			}
		}
	}
	return true
}

// holds asks b for all that it tells, of what there is and of what there is not.
func holds(t *testing.T, b *Book, want plain, why string) {
	t.Helper()
	if !same(b, want) {
		t.Fatalf("%s: %s, not %#v of %d Open", why, shown(b), want, want.open())
	}
	for _, id := range nones(len(want.escrows)) {
		if x, ok := b.Get(id); ok != between(id, 0, len(want.escrows)-1) || !ok && x != (Escrow{}) {
			t.Fatalf("%s: Get(%d) of %d: %#v, %t", why, id, len(want.escrows), x, ok)
		}
	}
	for _, asset := range nones(len(want.free[0])) {
		if n := b.Total(asset); !want.asset(asset) && n != 0 {
			t.Fatalf("%s: Total(%d), which is none: %d", why, asset, n)
		}
	}
}

// shown is b for a message.
func shown(b *Book) string {
	var l plain
	for party := range b.Purse().Parties() {
		var row []int
		for asset := range b.Purse().Assets() {
			row = append(row, b.Purse().Has(party, asset))
		}
		l.free = append(l.free, row)
	}
	var totals []int
	for asset := range b.Purse().Assets() {
		totals = append(totals, b.Total(asset))
	}
	for id := range b.Len() {
		x, _ := b.Get(id)
		l.escrows = append(l.escrows, x)
	}
	return fmt.Sprintf("%#v, Totals %v, %d Open", l, totals, b.Open())
}

// made answers a Book of a purse of start, and the plain one.
func made(t *testing.T, start ...[]int) (*Book, plain) {
	t.Helper()
	p, e := purse.New(start)
	if e != api.OK {
		t.Fatalf("P9.1: New(%v): %d", start, e)
	}
	b := New(table, p)
	if b == nil || b.Purse() != p {
		t.Fatal("P10.1, P10.3: New, or Purse")
	}
	want := plain{free: start}.copied()
	holds(t, b, want, "P10.1: a new one")
	return b, want
}

// makes makes the calls, which must all be done, and answers what is there then.
func makes(t *testing.T, b *Book, want plain, calls ...call) plain {
	t.Helper()
	for _, c := range calls {
		if _, _, e := want.after(c); e != api.OK {
			t.Fatalf("%v is not done: %d", c, e)
		}
		want = tries(t, b, want, c)
	}
	return want
}

// tries makes the call, holds what it answers and leaves against plain's, and
// answers that.
func tries(t *testing.T, b *Book, was plain, c call) plain {
	t.Helper()
	want, wid, we := was.after(c)
	if id, e := c.do(b); id != wid || e != we {
		t.Fatalf("%s: of %#v: %v: %d, %d, not %d, %d", c.promise(), was, c, id, e, wid, we)
	}
	if !same(b, want) {
		t.Fatalf("%s: of %#v: %v: left %s, not %#v", c.promise(), was, c, shown(b), want)
	}
	return want
}

// promise is the promise that tells of c.
func (c call) promise() string {
	if c.kind == lock {
		return "P10.1"
	}
	return "P10.2"
}
