package escrow

import (
	"math"
	"strings"
	"testing"
	"unsafe"

	"counterfoil/api"
	"counterfoil/purse"
	"counterfoil/sha"
)

// TestNoRoom gives to the purse beside the Book, so that what is locked goes in
// just so, or not by one: nothing changes then, and it goes in once there is room.
func TestNoRoom(t *testing.T) {
	s := text("s", 32)
	closing := []call{{kind: claim, from: 1, id: 1, text: s, clock: 9}, {kind: refund, from: 0, id: 1, clock: 10}}
	for _, amount := range []int{1, 2, 20, most - 100} {
		for _, c := range closing {
			for given := range 3 {
				b, want := made(t, []int{60, amount}, []int{40, 0}, []int{0, 3})
				want = makes(t, b, want,
					call{kind: lock, from: 2, to: 1, asset: 1, amount: 1, text: hashed(s), deadline: 10, clock: 0},
					call{kind: lock, from: 0, to: 1, asset: 1, amount: amount, text: hashed(s), deadline: 10, clock: 0},
					// 2 are free: what is left is amount and 1, amount, and amount less 1.
					call{kind: give, from: 2, asset: 1, amount: most - amount - 3 + given},
				)
				wantE := api.OK
				if given == 2 {
					wantE = api.ErrRange
				}
				if _, _, e := want.after(c); e != wantE {
					t.Fatalf("plain: %v: %d, not %d", c, e, wantE)
				}
				want = tries(t, b, want, c)
				holds(t, b, want, "P10.2: a Give beside the Book")
				if wantE == api.OK {
					continue
				}
				want = tries(t, b, want, closing[0])
				want = tries(t, b, want, closing[1])
				want = makes(t, b, want, call{kind: take, from: 2, asset: 1, amount: 1}, c)
				holds(t, b, want, "P10.2: a Take behind it")
			}
		}
	}
}

// TestNoRoomOfTheOther: only the escrow's own asset must have room.
func TestNoRoomOfTheOther(t *testing.T) {
	s := text("s", 32)
	for _, c := range []call{{kind: claim, from: 1, id: 0, text: s, clock: 9}, {kind: refund, from: 0, id: 0, clock: 10}} {
		b, want := made(t, []int{5, 0}, []int{0, 0})
		want = makes(t, b, want, call{kind: lock, from: 0, to: 1, amount: 5, text: hashed(s), deadline: 10, clock: 0}, call{kind: give, from: 1, asset: 1, amount: most}, c)
		holds(t, b, want, "P10.2: the other asset is full")
	}
}

// TestBeside gives, takes and moves by the purse that was handed in: the Book has
// the very same one.
func TestBeside(t *testing.T) {
	p, _ := purse.New([][]int{{10, 0}, {0, 0}})
	b := New(table, p)
	h := hashed(text("s", 32))
	for i, c := range []struct {
		got, want int
	}{
		{int(p.Move(0, 1, 0, 4)), 0},
		{code(b.Lock(0, 1, 0, 7, h, 9, 0)), int(api.ErrFunds)},
		{code(b.Lock(1, 0, 0, 4, h, 9, 0)), 0},
		{int(p.Take(1, 0, 1)), int(api.ErrFunds)},
		{int(p.Give(1, 1, 8)), 0},
		{code(b.Lock(1, 0, 1, 8, h, 9, 0)), 0},
		{int(p.Take(0, 0, 6)), 0},
		{code(b.Lock(0, 1, 0, 1, h, 9, 0)), int(api.ErrFunds)},
		{b.Total(0), 4},
		{p.Total(0), 0},
		{b.Total(1), 8},
		{int(b.Claim(0, 0, text("s", 32), 8)), 0},
		{p.Has(0, 0), 4},
		{int(b.Purse().Move(0, 1, 0, 3)), 0},
		{p.Has(1, 0), 3},
		{b.Total(0), 4},
		{int(b.Refund(1, 1, 9)), 0},
		{p.Has(1, 1), 8},
		{b.Len(), 2},
		{b.Open(), 0},
	} {
		if c.got != c.want {
			t.Errorf("P10.3: step %d: %d, not %d", i, c.got, c.want)
		}
	}
	if b.Purse() != p {
		t.Error("P10.3: another purse")
	}
}

// code is the error of a Lock.
func code(_ int, e api.Errno) int { return int(e) }

// TestTwoBooks makes two of one purse: each has its own escrows alone.
func TestTwoBooks(t *testing.T) {
	p, _ := purse.New([][]int{{10}, {0}})
	a, b := New(table, p), New(sha.NewTable(), p)
	if a.Purse() != p || b.Purse() != p || a == b {
		t.Fatal("P10.3: Purse of two Books")
	}
	h := hashed(text("s", 32))
	if id, e := a.Lock(0, 1, 0, 3, h, 9, 0); id != 0 || e != api.OK {
		t.Errorf("P10.1: %d, %d", id, e)
	}
	if b.Len() != 0 || b.Open() != 0 || b.Total(0) != 7 || a.Total(0) != 10 || b.Claim(1, 0, text("s", 32), 0) != api.ErrNone {
		t.Error("P10.1: another Book's escrow")
	}
	if id, e := b.Lock(0, 1, 0, 7, h, 9, 0); id != 0 || e != api.OK || a.Total(0) != 3 || b.Total(0) != 7 {
		t.Errorf("P10.1: %d, %d", id, e)
	}
	if e, f := b.Claim(1, 0, text("s", 32), 0), a.Refund(0, 0, 9); e != api.OK || f != api.OK || p.Has(0, 0) != 3 || p.Has(1, 0) != 7 {
		t.Errorf("P10.2: %d, %d", e, f)
	}
}

// TestGreatTotals locks all and gives as much again beside the Book: a Total is
// the sum of all, as long as it can be told, and never wraps.
func TestGreatTotals(t *testing.T) {
	b, want := made(t, []int{most, 1}, []int{0, 0})
	h := hashed(text("s", 32))
	all := call{kind: lock, from: 0, to: 1, amount: most, text: h, deadline: 9, clock: 0}
	want = makes(t, b, want, all, call{kind: give, from: 1, amount: most - 1})
	if b.Total(0) != math.MaxInt || b.Purse().Total(0) != most-1 {
		t.Errorf("P10.3: Total: %d", b.Total(0))
	}
	want = makes(t, b, want, call{kind: take, from: 1, amount: most - 2})
	if b.Total(0) != most+1 {
		t.Errorf("P10.3: Total: %d, not %d", b.Total(0), most+1)
	}
	want = makes(t, b, want, call{kind: give, from: 0, amount: most - 1})
	for range 4 {
		if b.Total(0) != math.MaxInt || b.Total(1) != 1 {
			t.Errorf("P10.3: Totals: %d, %d", b.Total(0), b.Total(1))
		}
		holds(t, b, want, "P10.3: great Totals")
		want = makes(t, b, want, call{kind: take, from: 1, amount: want.free[1][0]}, call{kind: give, from: 0, amount: most - want.free[0][0]}, all, call{kind: give, from: 0, amount: most})
	}
	want = makes(t, b, want, call{kind: take, from: 0, amount: most})
	want = makes(t, b, want, call{kind: claim, from: 1, id: 0, text: text("s", 32), clock: 0})
	holds(t, b, want, "P10.3: great Totals, behind a Claim")
}

// TestTextsAreNotKept hands in texts that lie in memory of the test's, and turns
// that behind the call: the Book has its own.
func TestTextsAreNotKept(t *testing.T) {
	b, want := made(t, []int{5}, []int{0})
	s := text("s", 32)
	h := []byte("ahead" + hashed(s) + "behind")
	want = makes(t, b, want, call{kind: lock, from: 0, to: 1, amount: 3, text: hashed(s), deadline: 10, clock: 0})
	if _, e := b.Lock(0, 1, 0, 2, unsafe.String(&h[5], 32), 10, 0); e != api.OK {
		t.Fatalf("P10.1: %d", e)
	}
	if string(h) != "ahead"+hashed(s)+"behind" {
		t.Error("P0.4: the hash was changed")
	}
	clear(h)
	want, _, _ = want.after(call{kind: lock, from: 0, to: 1, amount: 2, text: strings.Clone(hashed(s)), deadline: 10, clock: 0})
	holds(t, b, want, "P0.4: the hash was turned")
	k := []byte("ahead" + s + "behind")
	if e := b.Claim(1, 1, unsafe.String(&k[5], 32), 9); e != api.OK {
		t.Fatalf("P10.2: %d", e)
	}
	if string(k) != "ahead"+s+"behind" {
		t.Error("P0.4: the secret was changed")
	}
	clear(k)
	want, _, _ = want.after(call{kind: claim, from: 1, id: 1, text: s, clock: 9})
	holds(t, b, want, "P0.4: the secret was turned")
}

// TestGetIsACopy changes what Get answered.
func TestGetIsACopy(t *testing.T) {
	b, want := locked(t)
	for id := range b.Len() {
		x, _ := b.Get(id)
		x.From, x.To, x.Asset, x.Amount, x.Deadline, x.State = x.From+1, x.To+1, 9, 9, 9, 9
		x.Hash, x.Secret = "", "x"
	}
	holds(t, b, want, "P10.3: Get")
}
