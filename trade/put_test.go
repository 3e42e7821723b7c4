package trade_test

import (
	"testing"

	"counterfoil/api"
	"counterfoil/trade"
)

// refused puts what must not go in, and holds that it changed nothing.
func (x both) refused(who int, t trade.Trade, want api.Errno) {
	x.t.Helper()
	matched, open, n := x.d.Matched(), x.d.Open(), x.d.Len()
	if e := x.say(who, t); e != want {
		x.t.Fatalf("P18.1: Put(%d, %+v): %d, not %d", who, t, e, want)
	}
	if x.d.Len() != n {
		x.t.Fatalf("P18.1: a Put that is refused is one: %d, not %d", x.d.Len(), n)
	}
	x.tells(matched, open)
}

// TestPutOfBothSides: the buyer first, and the seller first.
func TestPutOfBothSides(t *testing.T) {
	for _, l := range [][2]int{{4, 9}, {9, 4}} {
		x := wide(t)
		x.goes(l[0], deal(7))
		x.tells(nil, []int{7})
		x.goes(l[1], deal(7))
		x.tells([]trade.Trade{deal(7)}, nil)
	}
}

// TestPutAtTheBounds puts trades with each field at its bounds.
func TestPutAtTheBounds(t *testing.T) {
	for name, b := range map[string][2]int{
		"ID": {0, 65535}, "Buyer": {0, 15}, "Seller": {0, 15}, "Cash": {0, 3}, "Asset": {0, 3},
		"Price": {1, greatest}, "Qty": {1, greatest},
	} {
		for _, n := range b {
			a := deal(7)
			*fields(&a)[name] = n
			x := wide(t)
			x.goes(a.Seller, a)
			x.goes(a.Buyer, a)
			x.tells([]trade.Trade{a}, nil)
		}
	}
}

// TestPutOfMaysErrors: each of May's errors, whoever puts it, changes nothing.
func TestPutOfMaysErrors(t *testing.T) {
	x := wide(t)
	x.goes(4, deal(7))
	x.goes(9, deal(7))
	x.goes(4, deal(8))
	for name, beyond := range map[string][]int{
		"ID": {-1, 65536}, "Buyer": {-1, 16}, "Seller": {-1, 16}, "Cash": {-1, 4}, "Asset": {-1, 4},
		"Price": {-1, 0, greatest + 1}, "Qty": {-1, 0, greatest + 1},
	} {
		for _, n := range append(far(), beyond...) {
			a := deal(9)
			*fields(&a)[name] = n
			for _, who := range []int{a.Buyer, a.Seller, 4, 9, 5, -1, 16} {
				x.refused(who, a, api.ErrRange)
			}
		}
	}
	for party := range 16 {
		a := deal(9)
		a.Buyer, a.Seller = party, party
		for _, who := range []int{party, 4, 9, -1} {
			x.refused(who, a, api.ErrParty)
		}
	}
	x.tells([]trade.Trade{deal(7)}, []int{8})
	x.goes(4, deal(9))
}

// TestPutOfNoSide: who is none of the sides confirms nothing, whoever it is.
func TestPutOfNoSide(t *testing.T) {
	x := wide(t)
	for range 2 {
		for who := range 16 {
			if who != 4 && who != 9 {
				x.refused(who, deal(7), api.ErrParty)
			}
		}
		for _, who := range append(far(), 16, 17, 4+1<<32, 9-1<<32) {
			x.refused(who, deal(7), api.ErrParty)
		}
		x.put(4, deal(7))
	}
	x.tells(nil, []int{7})
}

// TestPutTwice: who confirmed an ID confirms it no more, alike or not alike, on the
// same side or on the other one, with the same one or with another one.
func TestPutTwice(t *testing.T) {
	x := wide(t)
	x.goes(4, deal(7))
	again := []trade.Trade{
		deal(7), between(7, 9, 4, 1000), between(7, 4, 9, 1), between(7, 4, 5, 1), between(7, 6, 4, 1),
	}
	for range 2 {
		for _, a := range again {
			x.refused(4, a, api.ErrExists)
		}
		x.put(9, deal(7))
	}
	x.tells([]trade.Trade{deal(7)}, nil)
	for _, a := range again[:3] {
		x.refused(9, a, api.ErrExists)
	}
	for id := range 3 {
		x.goes(4, deal(id))
		x.refused(4, deal(id), api.ErrExists)
		x.goes(4, deal(65535-id))
	}
}

// TestPutOfOthers: what one has confirmed is no other one's, and of another ID it is
// another one.
func TestPutOfOthers(t *testing.T) {
	x := wide(t)
	for who := range 15 {
		x.goes(who, between(7, who, 15, 3))
		x.goes(who, between(8, 15, who, 3))
	}
	for who := range 15 {
		x.refused(who, between(7, who, 15, 3), api.ErrExists)
		x.refused(who, between(8, who, 15, 4), api.ErrExists)
	}
	x.goes(15, between(8, 15, 6, 3))
	x.tells([]trade.Trade{between(8, 15, 6, 3)}, []int{7})
}

// TestPutErrorsInTurn: where several hold, the one that the promise names first; at a
// desk with room, and at a full one.
func TestPutErrorsInTurn(t *testing.T) {
	x := wide(t)
	x.goes(4, deal(7))
	for range 2 {
		wrong := deal(7)
		wrong.Qty = 0
		x.refused(4, wrong, api.ErrRange)
		wrong.Buyer = 9
		x.refused(4, wrong, api.ErrRange)
		x.refused(9, wrong, api.ErrRange)
		one := deal(7)
		one.Seller = 4
		x.refused(4, one, api.ErrParty)
		x.refused(5, one, api.ErrParty)
		x.refused(4, between(7, 2, 3, 1), api.ErrParty)
		x.refused(4, deal(7), api.ErrExists)
		x.refused(4, between(7, 3, 4, 1), api.ErrExists)
		fill(x, 1000)
		x.refused(9, deal(7), api.ErrFull)
	}
}

// fill puts trades of one side with IDs from the one on, until there is no room.
func fill(x both, id int) {
	x.t.Helper()
	for n := x.d.Len(); n < full; n++ {
		if e := x.put(4, deal(id+n)); e != api.OK {
			x.t.Fatalf("P18.1: confirmation %d of %d: %d", n+1, full, e)
		}
	}
	x.holds()
}

// TestFull: there is room for so many confirmations, however they are matched.
func TestFull(t *testing.T) {
	for _, sides := range []int{1, 2, 16} {
		x := wide(t)
		for n := range full {
			who, id := n%sides, n/sides
			a := between(id, who&^1, who|1, 1+who/2)
			if e := x.put(who, a); e != api.OK {
				t.Fatalf("P18.1: confirmation %d of %d: %d", n+1, full, e)
			}
			if n > full-5 || n%50 == 0 {
				x.holds()
			}
		}
		for range 2 {
			x.refused(0, between(65535, 0, 1, 1), api.ErrFull)
			x.refused(1, between(65535, 0, 1, 1), api.ErrFull)
			x.refused(2, between(65535, 0, 1, 1), api.ErrParty)
			x.refused(0, between(65536, 0, 1, 1), api.ErrRange)
			x.refused(0, between(0, 0, 1, 1), api.ErrExists)
			x.refused(3, between(65535, 3, 3, 1), api.ErrParty)
		}
		if x.d.Len() != full {
			t.Errorf("P18.2: Len %d, not %d", x.d.Len(), full)
		}
	}
}

// TestFullBehindRefused: what is refused takes no room.
func TestFullBehindRefused(t *testing.T) {
	x := wide(t)
	for n := range full {
		x.put(4, deal(n))
		for _, who := range []int{4, 5, -1} {
			if e := x.put(who, deal(n)); e == api.OK {
				t.Fatalf("P18.1: Put by %d: OK", who)
			}
		}
		x.put(4, deal(-n-1))
		if x.d.Len() != n+1 {
			t.Fatalf("P18.2: Len %d, not %d", x.d.Len(), n+1)
		}
	}
	x.refused(9, deal(0), api.ErrFull)
}

// TestLastOneMatches: the last confirmation that there is room for is one as the
// others are.
func TestLastOneMatches(t *testing.T) {
	x := wide(t)
	for n := range full - 1 {
		x.put(4, deal(n))
	}
	x.holds()
	x.goes(9, deal(200))
	if l := x.d.Matched(); len(l) != 1 || l[0] != deal(200) || len(x.d.Open()) != full-2 {
		t.Errorf("P18.2: %+v", l)
	}
	x.refused(9, deal(201), api.ErrFull)
}
