package trade_test

import (
	"math"
	"testing"

	"counterfoil/api"
	"counterfoil/trade"
)

// TestNew makes a desk of all counts that are near to the bounds.
func TestNew(t *testing.T) {
	for parties := -2; parties <= 20; parties++ {
		for cash := -2; cash <= 7; cash++ {
			for assets := -2; assets <= 7; assets++ {
				d, e := trade.New(parties, cash, assets)
				right := 2 <= parties && parties <= 16 && 1 <= cash && cash <= 4 && 1 <= assets && assets <= 4
				if right && (d == nil || e != api.OK) || !right && (d != nil || e != api.ErrRange) {
					t.Errorf("P18.1: New(%d, %d, %d): %v, %d", parties, cash, assets, d, e)
				}
			}
		}
	}
}

func TestNewOfNoCount(t *testing.T) {
	for _, n := range append(far(), 0, 17, 18, 32, 1<<16, 1<<32+1, 1<<32+2, 1<<32+3) {
		for _, c := range [][3]int{{n, 1, 1}, {2, n, 1}, {2, 1, n}, {n, n, n}} {
			if d, e := trade.New(c[0], c[1], c[2]); d != nil || e != api.ErrRange {
				t.Errorf("P18.1: New%v: %v, %d", c, d, e)
			}
		}
	}
}

// TestNewIsEmpty: nothing is confirmed yet.
func TestNewIsEmpty(t *testing.T) {
	x := wide(t)
	x.tells(nil, nil)
	for id := range 3 {
		if x.d.Put(id, trade.Trade{}) == api.OK {
			t.Errorf("P18.1: Put of nothing")
		}
	}
	x.tells(nil, nil)
}

// TestCountsOfADesk: of each desk, what Put takes is what the counts say that it was
// made with, each one of its own.
func TestCountsOfADesk(t *testing.T) {
	for parties := 2; parties <= 16; parties++ {
		for cash := 1; cash <= 4; cash++ {
			for assets := 1; assets <= 4; assets++ {
				last := trade.Trade{Buyer: parties - 1, Seller: 0, Cash: cash - 1, Price: 1, Asset: assets - 1, Qty: 1}
				x := desk(t, parties, cash, assets)
				for _, c := range [][3]int{{1, 0, 0}, {0, 1, 0}, {0, 0, 1}} {
					over := last
					over.Buyer += c[0]
					over.Cash += c[1]
					over.Asset += c[2]
					if e := x.put(over.Buyer, over); e != api.ErrRange {
						t.Fatalf("P18.1: Put(%+v) at a desk of %d, %d, %d: %d", over, parties, cash, assets, e)
					}
				}
				x.goes(parties-1, last)
				x.goes(0, last)
				x.tells([]trade.Trade{last}, nil)
			}
		}
	}
}

// TestTwoDesks: two desks share nothing, however many of the one's calls come between.
func TestTwoDesks(t *testing.T) {
	x, y, z := wide(t), wide(t), desk(t, 2, 1, 1)
	a := deal(7)
	x.goes(4, a)
	y.holds()
	y.goes(9, a)
	x.tells(nil, []int{7})
	y.tells(nil, []int{7})
	x.goes(9, a)
	y.tells(nil, []int{7})
	y.goes(4, a)
	if e := z.say(4, a); e != api.ErrRange {
		t.Errorf("P18.1: Put at a desk of two: %d", e)
	}
	for k := range full - 2 {
		x.put(4, deal(100+k))
	}
	if e := x.put(4, deal(99)); e != api.ErrFull {
		t.Errorf("P18.1: Put at a full desk: %d", e)
	}
	y.goes(4, deal(99))
	z.goes(0, smallest(3))
	x.holds()
	y.tells([]trade.Trade{a}, []int{99})
	z.tells(nil, []int{3})
}

// smallest answers a trade that is right at the smallest desk.
func smallest(id int) trade.Trade {
	return trade.Trade{ID: id, Buyer: 0, Seller: 1, Price: math.MaxInt32, Qty: 2}
}
