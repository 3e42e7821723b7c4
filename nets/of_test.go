package nets_test

import (
	"slices"
	"testing"

	"counterfoil/api"
	"counterfoil/nets"
	"counterfoil/trade"
)

// TestOfNone: of no trades there are no nets, and no error.
func TestOfNone(t *testing.T) {
	for _, l := range [][]trade.Trade{nil, {}, make([]trade.Trade, 0, 5)} {
		tells(t, l)
		kept(t, l)
	}
}

// TestOfOne: the buyer is to give the price, and the seller the quantity.
func TestOfOne(t *testing.T) {
	tells(t, []trade.Trade{deal(1, 2, 3, 500, 0, 6)}, net(1, 2, cash, 3, 500), net(2, 1, securities, 0, 6))
	tells(t, []trade.Trade{deal(2, 1, 3, 500, 0, 6)}, net(2, 1, cash, 3, 500), net(1, 2, securities, 0, 6))
	tells(t, []trade.Trade{deal(0, 15, 0, 1, 0, 1)}, net(0, 15, cash, 0, 1), net(15, 0, securities, 0, 1))
	tells(t, []trade.Trade{deal(4, 9, 2, greatest, 2, greatest)}, net(4, 9, cash, 2, greatest), net(9, 4, securities, 2, greatest))
}

// TestOfNothing: what is 0 is no net.
func TestOfNothing(t *testing.T) {
	tells(t, []trade.Trade{deal(1, 2, 3, 0, 0, 0)})
	tells(t, []trade.Trade{deal(1, 2, 3, 0, 0, 6)}, net(2, 1, securities, 0, 6))
	tells(t, []trade.Trade{deal(1, 2, 3, 500, 0, 0)}, net(1, 2, cash, 3, 500))
	tells(t, []trade.Trade{{}, {}, {Buyer: 1}})
}

// TestAnyID: what a trade's ID is, and whether another one has it, is of no matter.
func TestAnyID(t *testing.T) {
	for _, id := range far() {
		a, b := deal(1, 2, 3, 500, 0, 6), deal(1, 2, 3, 40, 0, 7)
		a.ID = id
		tells(t, []trade.Trade{a}, net(1, 2, cash, 3, 500), net(2, 1, securities, 0, 6))
		tells(t, []trade.Trade{a, b, a}, net(1, 2, cash, 3, 1040), net(2, 1, securities, 0, 19))
		b.ID = id
		tells(t, []trade.Trade{a, b}, net(1, 2, cash, 3, 540), net(2, 1, securities, 0, 13))
	}
}

// TestUndone: two trades that undo one another leave nothing, or what they do not undo.
func TestUndone(t *testing.T) {
	for _, c := range []struct {
		a, b trade.Trade
		want []nets.Net
	}{
		{deal(1, 2, 3, 500, 0, 6), deal(2, 1, 3, 500, 0, 6), nil},
		{deal(1, 2, 3, greatest, 0, greatest), deal(2, 1, 3, greatest, 0, greatest), nil},
		{deal(1, 2, 3, 500, 0, 6), deal(2, 1, 3, 500, 0, 5), []nets.Net{net(2, 1, securities, 0, 1)}},
		{deal(1, 2, 3, 500, 0, 6), deal(2, 1, 3, 500, 0, 7), []nets.Net{net(1, 2, securities, 0, 1)}},
		{deal(1, 2, 3, 500, 0, 6), deal(2, 1, 3, 499, 0, 6), []nets.Net{net(1, 2, cash, 3, 1)}},
		{deal(1, 2, 3, 500, 0, 6), deal(2, 1, 3, 501, 0, 6), []nets.Net{net(2, 1, cash, 3, 1)}},
		{deal(1, 2, 3, 500, 0, 6), deal(2, 1, 3, 500, 1, 6), []nets.Net{net(2, 1, securities, 0, 6), net(1, 2, securities, 1, 6)}},
		{deal(1, 2, 3, 500, 0, 6), deal(2, 1, 2, 500, 0, 6), []nets.Net{net(2, 1, cash, 2, 500), net(1, 2, cash, 3, 500)}},
		{deal(1, 2, 3, 500, 0, 6), deal(1, 2, 3, 500, 0, 6), []nets.Net{net(1, 2, cash, 3, 1000), net(2, 1, securities, 0, 12)}},
		{deal(1, 2, 3, 500, 0, 6), deal(2, 4, 3, 500, 0, 6), []nets.Net{
			net(1, 2, cash, 3, 500), net(2, 1, securities, 0, 6), net(2, 4, cash, 3, 500), net(4, 2, securities, 0, 6),
		}},
	} {
		tells(t, []trade.Trade{c.a, c.b}, c.want...)
		tells(t, []trade.Trade{c.b, c.a}, c.want...)
	}
}

// TestMore: of what two give one another what is more is left, to who gets less.
func TestMore(t *testing.T) {
	for _, c := range []struct{ up, down, left int }{
		{7, 3, 4}, {3, 7, -4}, {1, 2, -1}, {2, 1, 1}, {greatest, 1, greatest - 1}, {1, greatest, 1 - greatest},
		{greatest, greatest - 1, 1}, {greatest - 1, greatest, -1}, {0, greatest, -greatest}, {greatest, 0, greatest},
	} {
		for _, p := range [][2]int{{0, 1}, {3, 11}, {-4, 4}, {-9, -8}} {
			money, goods := net(p[0], p[1], cash, 1, c.left), net(p[0], p[1], securities, 1, c.left)
			if c.left < 0 {
				money, goods = net(p[1], p[0], cash, 1, -c.left), net(p[1], p[0], securities, 1, -c.left)
			}
			a, b := pays(p[0], p[1], c.up), pays(p[1], p[0], c.down)
			x, y := delivers(p[0], p[1], c.up), delivers(p[1], p[0], c.down)
			tells(t, []trade.Trade{a, b}, money)
			tells(t, []trade.Trade{b, a}, money)
			tells(t, []trade.Trade{x, y}, goods)
			tells(t, []trade.Trade{y, x}, goods)
			tells(t, []trade.Trade{y, a, b, x}, money, goods)
		}
	}
}

// TestApart: what is of another asset, of the other ledger, or between two others makes
// up for nothing.
func TestApart(t *testing.T) {
	tells(t, []trade.Trade{deal(1, 2, 3, 5, 3, 4), deal(2, 1, 0, 5, 0, 4)},
		net(2, 1, cash, 0, 5), net(1, 2, cash, 3, 5), net(1, 2, securities, 0, 4), net(2, 1, securities, 3, 4))
	// 1 gives 2 cash of asset 2, and 2 gives 1 as many securities of asset 2.
	tells(t, []trade.Trade{deal(1, 2, 2, 5, 2, 5)}, net(1, 2, cash, 2, 5), net(2, 1, securities, 2, 5))
	tells(t, []trade.Trade{pays(1, 2, 5), delivers(1, 2, 5)}, net(1, 2, cash, 1, 5), net(1, 2, securities, 1, 5))
	tells(t, []trade.Trade{pays(1, 2, 5), delivers(2, 1, 3)}, net(1, 2, cash, 1, 5), net(2, 1, securities, 1, 3))
	// Around a circle nothing is undone.
	tells(t, []trade.Trade{pays(1, 2, 5), pays(2, 3, 5), pays(3, 1, 5)},
		net(1, 2, cash, 1, 5), net(3, 1, cash, 1, 5), net(2, 3, cash, 1, 5))
}

// TestOneItself: what one gives itself is between no two parties.
func TestOneItself(t *testing.T) {
	for _, n := range []int{0, 1, -1, greatest, greatest + 1, -greatest} {
		l := []trade.Trade{deal(2, 2, 1, n, 1, n), deal(2, 2, 1, 4, 1, 4), deal(0, 0, 0, n, 0, 3)}
		tells(t, l)
		kept(t, l)
		l = append(l, pays(2, 5, 7), deal(5, 5, 1, n, 1, -n), delivers(1, 2, 3))
		tells(t, l, net(1, 2, securities, 1, 3), net(2, 5, cash, 1, 7))
		kept(t, l)
	}
}

// sorted are trades between all kinds of sides, whose nets differ in each thing that
// they are ordered by, and the nets in their order.
func sorted() ([]trade.Trade, []nets.Net) {
	return []trade.Trade{
		deal(0, 1, 1, 2, 0, 3), deal(1, 0, 0, 4, 2, 5), deal(10, 0, 0, 6, 0, 7),
		deal(2, 1, 0, 8, 0, 9), deal(-1, 3, 1, 10, 1, 11), deal(2, 9, 0, 12, 3, 13),
		deal(-1, -2, 2, 14, -1, 15),
	}, []nets.Net{
		net(-1, -2, cash, 2, 14), net(-2, -1, securities, -1, 15),
		net(-1, 3, cash, 1, 10), net(3, -1, securities, 1, 11),
		net(1, 0, cash, 0, 4), net(0, 1, cash, 1, 2), net(1, 0, securities, 0, 3), net(0, 1, securities, 2, 5),
		net(10, 0, cash, 0, 6), net(0, 10, securities, 0, 7),
		net(2, 1, cash, 0, 8), net(1, 2, securities, 0, 9),
		net(2, 9, cash, 0, 12), net(9, 2, securities, 3, 13),
	}
}

// swaps does all orders of l.
func swaps(l []trade.Trade, do func(l []trade.Trade)) {
	var rest func(done []trade.Trade, left []trade.Trade)
	rest = func(done, left []trade.Trade) {
		if len(left) == 0 {
			do(done)
			return
		}
		for i, x := range left {
			rest(append(slices.Clone(done), x), slices.Delete(slices.Clone(left), i, i+1))
		}
	}
	rest(nil, l)
}

// TestOrder: the nets stand in their order, whatever that of the trades is.
func TestOrder(t *testing.T) {
	l, want := sorted()
	ordered(t, want)
	swaps(l, func(l []trade.Trade) {
		got, e := nets.Of(l)
		if e != api.OK || !slices.Equal(got, want) {
			t.Fatalf("P19.1: Of(%s): %s, %d, not %s", show(l), show(got), e, show(want))
		}
	})
	tells(t, l, want...)
	kept(t, l)
}

// TestOrderOfTwo: of two nets that differ in one thing alone, the lower one is the
// first, whoever gives.
func TestOrderOfTwo(t *testing.T) {
	for _, c := range []struct{ a, b trade.Trade }{
		{pays(1, 3, 5), pays(2, 3, 5)}, {pays(3, 1, 5), pays(2, 3, 5)}, {pays(3, 1, 5), pays(3, 2, 5)}, {pays(1, 3, 5), pays(3, 2, 5)},
		{pays(1, 2, 5), pays(1, 3, 5)}, {pays(2, 1, 5), pays(1, 3, 5)}, {pays(2, 1, 5), pays(3, 1, 5)}, {pays(1, 2, 5), pays(3, 1, 5)},
		{pays(1, 9, 5), pays(2, 3, 5)}, {pays(9, 1, 5), pays(3, 2, 5)},
		{pays(1, 2, 5), delivers(1, 2, 4)}, {pays(1, 2, 5), delivers(2, 1, 4)}, {pays(2, 1, 5), delivers(1, 2, 4)},
		{deal(1, 2, 0, 5, 0, 0), deal(1, 2, 1, 5, 0, 0)}, {deal(2, 1, 0, 5, 0, 0), deal(1, 2, 1, 5, 0, 0)},
		{deal(1, 2, 0, 0, 0, 5), deal(1, 2, 0, 0, 1, 5)}, {deal(1, 2, 0, 0, 0, 5), deal(2, 1, 0, 0, 1, 5)},
		{deal(1, 2, 3, 5, 0, 0), deal(1, 2, 0, 0, 2, 5)}, {deal(1, 2, 3, 0, 3, 5), deal(1, 3, 0, 5, 0, 0)},
		{deal(1, 2, -1, 5, 0, 0), deal(1, 2, 0, 5, 0, 0)}, {pays(-2, -1, 5), pays(-1, 0, 5)}, {pays(-2, 7, 5), pays(-1, 0, 5)},
	} {
		first, e := of(t, []trade.Trade{c.a})
		second, f := of(t, []trade.Trade{c.b})
		if e != api.OK || f != api.OK || len(first) != 1 || len(second) != 1 {
			t.Fatalf("P19.1: %s, %s", show(first), show(second))
		}
		tells(t, []trade.Trade{c.a, c.b}, first[0], second[0])
		tells(t, []trade.Trade{c.b, c.a}, first[0], second[0])
	}
}
