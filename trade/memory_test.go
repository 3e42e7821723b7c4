package trade_test

import (
	"slices"
	"testing"

	"counterfoil/trade"
)

// stock is a desk with some that are matched and some that are open.
func stock(t *testing.T, matched, open int) both {
	t.Helper()
	x := wide(t)
	for k := range matched {
		x.put(4, deal(100-2*k))
		x.put(9, deal(100-2*k))
	}
	for k := range open {
		x.put(4, deal(101+2*k))
	}
	x.holds()
	return x
}

// sizes are how many are matched, and how many are open.
func sizes() [][2]int {
	return [][2]int{{0, 0}, {1, 0}, {0, 1}, {1, 1}, {2, 3}, {3, 2}, {5, 7}, {33, 17}}
}

// spoilTrades turns all of l, and its spare room.
func spoilTrades(l []trade.Trade) {
	l = l[:cap(l)]
	for i := range l {
		l[i] = trade.Trade{ID: -7, Buyer: -7, Seller: -7, Cash: -7, Price: -7, Asset: -7, Qty: -7}
	}
}

// spoilIDs turns all of l, and its spare room.
func spoilIDs(l []int) {
	l = l[:cap(l)]
	for i := range l {
		l[i] = -7
	}
}

// TestAnswersAreNew writes into each answer and behind it: neither the desk nor another
// answer shows it.
func TestAnswersAreNew(t *testing.T) {
	for _, n := range sizes() {
		x := stock(t, n[0], n[1])
		matched, open := x.p.told()
		l, m := x.d.Matched(), x.d.Matched()
		o, q := x.d.Open(), x.d.Open()
		spoilTrades(append(l, deal(1), deal(2)))
		spoilTrades(l)
		spoilIDs(append(o, 1, 2, 3))
		spoilIDs(o)
		x.holds()
		if !slices.Equal(m, matched) || !slices.Equal(q, open) {
			t.Fatalf("P18.3: two answers are one: %+v, %v", m, q)
		}
		spoilTrades(m)
		spoilIDs(q)
		x.holds()
	}
}

// TestSpareRoom: what is written behind the length of one answer is not seen in that
// of another one.
func TestSpareRoom(t *testing.T) {
	for _, n := range sizes() {
		x := stock(t, n[0], n[1])
		l, m := x.d.Matched(), x.d.Matched()
		o, q := x.d.Open(), x.d.Open()
		a, b := len(l), len(o)
		spoilTrades(m[a:])
		spoilIDs(q[b:])
		for _, c := range l[a:cap(l)] {
			if c.ID == -7 {
				t.Fatalf("P18.3: two answers of %d share their spare room", a)
			}
		}
		for _, id := range o[b:cap(o)] {
			if id == -7 {
				t.Fatalf("P18.3: two answers of %d share their spare room", b)
			}
		}
		x.holds()
	}
}

// TestAnswersStay: what was answered is still what it was when others are confirmed.
func TestAnswersStay(t *testing.T) {
	x := wide(t)
	var matched [][]trade.Trade
	var open [][]int
	var wants [][]trade.Trade
	var wanto [][]int
	for k := range 60 {
		x.put(4, deal(60-k))
		if k%3 != 0 {
			x.put(9, deal(60-k))
		}
		matched, open = append(matched, x.d.Matched()), append(open, x.d.Open())
		l, o := x.p.told()
		wants, wanto = append(wants, l), append(wanto, o)
	}
	for k := range matched {
		if !slices.Equal(matched[k], wants[k]) || !slices.Equal(open[k], wanto[k]) {
			t.Fatalf("P18.3: answer %d is another one now: %+v, %v", k, matched[k], open[k])
		}
		spoilTrades(matched[k])
		spoilIDs(open[k])
	}
	x.holds()
}

// TestWrittenInto: a desk whose answers are written into goes on as one whose answers
// are not.
func TestWrittenInto(t *testing.T) {
	x := wide(t)
	for k := range 100 {
		x.put(4, deal(k*7%50))
		spoilTrades(x.d.Matched())
		spoilIDs(x.d.Open())
		x.put(9, deal(k*11%50))
		spoilTrades(append(x.d.Matched(), deal(3)))
		spoilIDs(append(x.d.Open(), 3))
		x.holds()
	}
}

// TestDesksApart: what one desk answers is no memory of another one.
func TestDesksApart(t *testing.T) {
	for _, n := range sizes() {
		x, y := stock(t, n[0], n[1]), stock(t, n[0], n[1])
		spoilTrades(x.d.Matched())
		spoilIDs(x.d.Open())
		y.holds()
		x.put(4, deal(3))
		y.holds()
		x.holds()
	}
}

// TestHandedIn: a trade that was put is what it was then, whatever becomes of the
// caller's.
func TestHandedIn(t *testing.T) {
	x := wide(t)
	a := deal(7)
	x.goes(4, a)
	was := a
	a.ID, a.Qty = 8, 3
	x.tells(nil, []int{7})
	x.goes(9, was)
	x.tells([]trade.Trade{was}, nil)
	x.goes(4, a)
	x.tells([]trade.Trade{was}, []int{8})
}
