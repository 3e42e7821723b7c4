package nets_test

import (
	"math"
	"slices"
	"testing"

	"counterfoil/nets"
	"counterfoil/trade"
)

// gifts are the ways in which one gives another one: of each ledger, the lower party
// and the higher one.
func gifts() []func(n int) trade.Trade {
	return []func(n int) trade.Trade{
		func(n int) trade.Trade { return pays(1, 2, n) },
		func(n int) trade.Trade { return pays(2, 1, n) },
		func(n int) trade.Trade { return delivers(1, 2, n) },
		func(n int) trade.Trade { return delivers(2, 1, n) },
	}
}

// each makes a gift of each of the numbers.
func each(gift func(n int) trade.Trade, numbers ...int) []trade.Trade {
	var l []trade.Trade
	for _, n := range numbers {
		l = append(l, gift(n))
	}
	return l
}

// TestGreatest: one may give another one the greatest amount in all, and no more,
// whatever it gets.
func TestGreatest(t *testing.T) {
	for i, gift := range gifts() {
		back := gifts()[i^1]
		for _, right := range [][]int{
			{greatest}, {greatest, 0}, {greatest - 1, 1}, {1, greatest - 1}, {greatest / 2, greatest / 2}, {greatest - 5, 2, 0, 3},
		} {
			l := each(gift, right...)
			if left, _ := of(t, l); len(left) != 1 || left[0].Amount != greatest {
				t.Errorf("P19.1: Of(%s): %s", show(l), show(left))
			}
			kept(t, l)
			tells(t, append(l, back(greatest)))
			refused(t, append(l, gift(1))...)
			refused(t, append([]trade.Trade{gift(1)}, l...)...)
			// What it gets makes up for nothing.
			for _, n := range []int{1, 2, greatest - 1, greatest} {
				refused(t, append(l, gift(1), back(n))...)
				refused(t, append([]trade.Trade{back(n), gift(1)}, l...)...)
				refused(t, append([]trade.Trade{gift(1), back(n)}, l...)...)
			}
			refused(t, append(l, gift(1), back(greatest), back(1))...)
		}
	}
}

// against answers the nets of what goes against x, by their amounts.
func against(x trade.Trade, price, qty int) []nets.Net {
	return []nets.Net{net(x.Seller, x.Buyer, cash, x.Cash, price), net(x.Buyer, x.Seller, securities, x.Asset, qty)}
}

// TestGreatestOfEach: the greatest amount holds of each way for itself.
func TestGreatestOfEach(t *testing.T) {
	var l []trade.Trade
	for party := range 4 {
		for other := range 4 {
			for asset := range 2 {
				if party != other {
					l = append(l, deal(party, other, asset, greatest, asset, greatest))
				}
			}
		}
	}
	tells(t, l)
	for i, x := range l {
		one := slices.Delete(slices.Clone(l), i, i+1)
		tells(t, one, against(x, greatest, greatest)...)
		more := deal(x.Buyer, x.Seller, x.Cash, 1, x.Asset, 0)
		refused(t, append(l, more)...)
		tells(t, append(one, more), against(x, greatest-1, greatest)...)
		more.Price, more.Qty = 0, 1
		refused(t, append(slices.Clone(l), more)...)
		tells(t, append(one, more), against(x, greatest, greatest-1)...)
	}
}

// TestFault: one way of many that is no amount is enough.
func TestFault(t *testing.T) {
	var l []trade.Trade
	for k := range 40 {
		l = append(l, deal(k%5, 5+k%7, k%3, 10+k, k%2, 20+k))
	}
	kept(t, l)
	for k := range l {
		for _, n := range []int{-1, greatest + 1, math.MinInt, math.MaxInt} {
			// Party 99 has to do with nobody else.
			x := []trade.Trade{deal(99, k%9, 0, n, 0, 1), deal(99, k%9, 0, 1, 0, n), deal(k%9, 99, 0, n, 0, 1), deal(k%9, 99, 0, 1, 0, n)}
			refused(t, slices.Insert(slices.Clone(l), k, x[k%4])...)
		}
	}
}

// TestNoAmounts: a trade alone whose numbers are none.
func TestNoAmounts(t *testing.T) {
	for _, gift := range gifts() {
		for _, n := range []int{-1, -2, -greatest, -greatest - 1, math.MinInt, math.MinInt + 1, greatest + 1, greatest + 2, math.MaxInt - 1, math.MaxInt} {
			refused(t, gift(n))
			refused(t, gift(n), gift(0))
			refused(t, gift(0), gift(n))
			refused(t, gift(n), gift(n))
		}
	}
	refused(t, deal(1, 2, 0, -1, 0, -1))
	refused(t, deal(1, 2, 0, -1, 0, 1))
	refused(t, deal(1, 2, 0, 1, 0, -1))
	refused(t, deal(1, 2, 0, greatest+1, 0, greatest+1))
}

// TestInAll: what counts is what one gives in all, by what it is without bounds: it
// may be past them on the way, and what is past them may not come back by wrapping.
func TestInAll(t *testing.T) {
	const low, high = math.MinInt, math.MaxInt
	for _, gift := range gifts() {
		for _, c := range []struct {
			numbers []int
			in      int
		}{
			{[]int{-1, 5}, 4}, {[]int{5, -1}, 4}, {[]int{-5, 5}, 0}, {[]int{5, -5}, 0}, {[]int{greatest + 1, -1}, greatest},
			{[]int{-1, greatest + 1}, greatest}, {[]int{greatest, greatest, -greatest}, greatest}, {[]int{high, low, 1}, 0},
			{[]int{high, -high}, 0}, {[]int{low, high, 3}, 2}, {[]int{high, high, low, low, 2}, 0}, {[]int{low, low, high, high, 9}, 7},
			{[]int{high, high, high, high, low, low, low, low, 4}, 0}, {[]int{low, low, low, low, high, high, high, high, 4 + greatest}, greatest},
			{[]int{low, greatest, greatest}, 0}, {[]int{greatest, greatest, low}, 0},
		} {
			l := each(gift, c.numbers...)
			left, _ := of(t, l)
			if c.in == 0 && len(left) == 0 {
				kept(t, l)
				continue
			}
			if len(left) != 1 || left[0].Amount != c.in {
				t.Errorf("P19.1: Of(%s): %s, not %d", show(l), show(left), c.in)
			}
			kept(t, l)
		}
		for _, numbers := range [][]int{
			{high, high, 2}, {high, high, 7}, {2, high, high}, {low, low}, {low, low, 1}, {low, low, greatest}, {low, low, low, low},
			{low, low, low, low, 8}, {high, high, high, high, 4}, {high, high, high, high, 12}, {1, -2}, {-2, 1}, {greatest, 2, -1},
			{greatest, greatest, greatest, greatest}, {greatest, greatest, greatest, greatest, 5}, {greatest, greatest},
			{high, high, high, high, low, low, 4}, {low, low, low, high, 1}, {low, low, low, high, 1 + greatest},
		} {
			refused(t, each(gift, numbers...)...)
		}
	}
}

// TestSumOfMany: many trades come to the greatest amount, and to one more.
func TestSumOfMany(t *testing.T) {
	const parts = 1 << 12
	for i, gift := range gifts() {
		var l []trade.Trade
		for range parts {
			l = append(l, gift(greatest/parts))
		}
		left, _ := of(t, l)
		if len(left) != 1 || left[0].Amount != greatest {
			t.Errorf("P19.1: %s", show(left))
		}
		tells(t, append(l, gifts()[i^1](greatest)))
		refused(t, append(l, gift(1))...)
		refused(t, append(l, gift(1), gifts()[i^1](1))...)
		l[parts/2] = gift(greatest/parts - 1)
		left, _ = of(t, append(l, gift(1)))
		if len(left) != 1 || left[0].Amount != greatest {
			t.Errorf("P19.1: %s", show(left))
		}
		// As an int this comes to 0.
		l = l[:0]
		for range parts {
			l = append(l, gift(greatest/parts*4))
		}
		refused(t, l...)
		refused(t, append(l, gift(5))...)
	}
}

// TestAnyParty: parties and assets may be any numbers.
func TestAnyParty(t *testing.T) {
	for _, a := range far() {
		for _, b := range far() {
			x := deal(a, b, b, 3, a, 2)
			if a == b {
				tells(t, []trade.Trade{x})
			} else {
				tells(t, []trade.Trade{x}, net(a, b, cash, b, 3), net(b, a, securities, a, 2))
				tells(t, []trade.Trade{x, deal(b, a, b, 4, a, 2)}, net(b, a, cash, b, 1))
			}
			kept(t, []trade.Trade{x})
		}
	}
}

// TestOrderOfAny: parties and assets of all sizes are ordered as numbers.
func TestOrderOfAny(t *testing.T) {
	var l []trade.Trade
	for i, a := range far() {
		for k, b := range far() {
			if i < 9 || k%5 == 0 {
				l = append(l, deal(a, b, far()[(i+k)%len(far())], 3+i, far()[(i*k)%len(far())], 2+k))
			}
		}
	}
	left, _ := of(t, l)
	if len(left) < 100 {
		t.Errorf("P19.1: %d nets", len(left))
	}
	ordered(t, left)
	slices.Reverse(l)
	tells(t, l, left...)
}
