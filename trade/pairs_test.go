package trade_test

import (
	"math/rand"
	"testing"

	"counterfoil/trade"
)

// pairs are both confirmations of n trades of one ID, all of other sides: those of
// the k-th stand at 2k and 2k + 1.
func pairs(id, n int) []said {
	var l []said
	for k := range n {
		a := between(id, 2*k+1, 2*k, 5+k%2)
		l = append(l, said{a.Buyer, a}, said{a.Seller, a})
	}
	return l
}

// orders does all orders of 0 to n - 1.
func orders(n int, do func(order []int)) {
	var rest func(order []int)
	rest = func(order []int) {
		if len(order) == n {
			do(order)
			return
		}
		for i := range n {
			fresh := true
			for _, k := range order {
				fresh = fresh && k != i
			}
			if fresh {
				rest(append(order[:len(order):len(order)], i))
			}
		}
	}
	rest(nil)
}

// row confirms each of l in the order, and holds the desk behind each one.
func row(t *testing.T, l []said, order []int) both {
	t.Helper()
	x := wide(t)
	for _, i := range order {
		x.goes(l[i].who, l[i].t)
	}
	return x
}

// TestTwoPairs: the pair whose earlier confirmation was the first is it, as things
// stand behind each call.
func TestTwoPairs(t *testing.T) {
	l := pairs(7, 2)
	a, b := l[0].t, l[2].t
	none := trade.Trade{}
	for _, c := range []struct {
		order [4]int
		want  [4]trade.Trade
	}{
		{[4]int{0, 1, 2, 3}, [4]trade.Trade{none, a, a, a}},
		{[4]int{0, 2, 1, 3}, [4]trade.Trade{none, none, a, a}},
		{[4]int{0, 2, 3, 1}, [4]trade.Trade{none, none, b, a}},
		{[4]int{1, 3, 2, 0}, [4]trade.Trade{none, none, b, a}},
		{[4]int{2, 0, 1, 3}, [4]trade.Trade{none, none, a, b}},
		{[4]int{2, 1, 3, 0}, [4]trade.Trade{none, none, b, b}},
		{[4]int{3, 2, 1, 0}, [4]trade.Trade{none, b, b, b}},
		{[4]int{3, 1, 0, 2}, [4]trade.Trade{none, none, a, b}},
	} {
		x := wide(t)
		for k, i := range c.order {
			x.goes(l[i].who, l[i].t)
			if c.want[k] == none {
				x.tells(nil, []int{7})
			} else {
				x.tells([]trade.Trade{c.want[k]}, nil)
			}
		}
	}
}

// TestAllOrders confirms two and three pairs of one ID in each order there is.
func TestAllOrders(t *testing.T) {
	for _, n := range []int{1, 2, 3} {
		l := pairs(7, n)
		orders(2*n, func(order []int) {
			x := row(t, l, order)
			first := l[order[0]].t
			x.tells([]trade.Trade{first}, nil)
		})
	}
}

// TestThree: two that are alike and a third one, and three that are not, in each order.
func TestThree(t *testing.T) {
	a, b := between(7, 4, 9, 5), between(7, 4, 9, 6)
	for _, third := range []said{
		{2, between(7, 2, 3, 5)}, {2, between(7, 2, 9, 5)}, {2, between(7, 4, 2, 5)}, {2, between(7, 9, 2, 5)},
	} {
		l := []said{{4, a}, {9, a}, third}
		orders(3, func(order []int) {
			row(t, l, order).tells([]trade.Trade{a}, nil)
		})
		l[1].t = b
		orders(3, func(order []int) {
			row(t, l, order).tells(nil, []int{7})
		})
	}
}

// TestFour: four confirmations of one ID of which two are alike, or none, in each
// order; some sides are in several of the trades.
func TestFour(t *testing.T) {
	a := between(7, 4, 9, 5)
	for _, others := range [][2]said{
		{{2, between(7, 2, 3, 5)}, {3, between(7, 2, 3, 6)}},
		{{2, between(7, 2, 3, 5)}, {3, between(7, 3, 2, 5)}},
		{{2, between(7, 2, 4, 5)}, {3, between(7, 9, 3, 5)}},
		{{2, between(7, 2, 9, 5)}, {3, between(7, 3, 9, 5)}},
	} {
		l := []said{{4, a}, {9, a}, others[0], others[1]}
		orders(4, func(order []int) {
			row(t, l, order).tells([]trade.Trade{a}, nil)
		})
		l[1].t.Qty++
		orders(4, func(order []int) {
			row(t, l, order).tells(nil, []int{7})
		})
	}
}

// TestAlikeButForSides: two pairs that are alike but for who they are.
func TestAlikeButForSides(t *testing.T) {
	a, b := between(7, 4, 9, 5), between(7, 2, 3, 5)
	l := []said{{4, a}, {9, a}, {2, b}, {3, b}}
	orders(4, func(order []int) {
		row(t, l, order).tells([]trade.Trade{l[order[0]].t}, nil)
	})
}

// TestLateOfAnEarlyOne: an ID of eight pairs, in which each earlier confirmation comes
// first, and then each later one, the last one's first: each one takes the place of
// the one behind it.
func TestLateOfAnEarlyOne(t *testing.T) {
	l := pairs(7, 8)
	x := wide(t)
	for k := range 8 {
		x.goes(l[2*k].who, l[2*k].t)
		x.tells(nil, []int{7})
	}
	for k := range 8 {
		late := l[2*(7-k)+1]
		x.goes(late.who, late.t)
		x.tells([]trade.Trade{late.t}, nil)
	}
}

// TestEarlyStays: where the first pair is the first one to be alike, it stays.
func TestEarlyStays(t *testing.T) {
	l := pairs(7, 8)
	x := wide(t)
	for k := range 8 {
		x.goes(l[2*k].who, l[2*k].t)
	}
	for k := range 8 {
		late := l[2*k+1]
		x.goes(late.who, late.t)
		x.tells([]trade.Trade{l[0].t}, nil)
	}
}

// TestPairsOfManyIDs: which pair it is hangs on its own ID's confirmations alone.
func TestPairsOfManyIDs(t *testing.T) {
	for seed := range 30 {
		r := rand.New(rand.NewSource(int64(seed)))
		var l []said
		for _, id := range []int{12, 3, 40, 7} {
			l = append(l, pairs(id, 1+r.Intn(8))...)
		}
		r.Shuffle(len(l), func(i, j int) { l[i], l[j] = l[j], l[i] })
		x := wide(t)
		first := map[int]trade.Trade{}
		for _, s := range l {
			x.goes(s.who, s.t)
			if _, ok := first[s.t.ID]; !ok {
				first[s.t.ID] = s.t
			}
		}
		x.tells([]trade.Trade{first[3], first[7], first[12], first[40]}, nil)
	}
}
