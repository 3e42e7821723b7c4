package nets_test

import (
	"math"
	"testing"

	"counterfoil/nets"
	"counterfoil/trade"
)

// market are trades by which 1 gets and gives, 2 gives cash alone, 3 gets cash alone.
func market() []trade.Trade {
	return []trade.Trade{
		deal(2, 1, 0, 100, 1, 7), deal(1, 3, 0, 30, 1, 4), deal(2, 3, 1, 9, 0, 5), deal(2, 1, 0, 8, 2, 1), deal(6, 6, 0, 50, 1, 60),
	}
}

// TestGross holds Gross against numbers reckoned by hand: of who gets, who gives, who
// does both, who trades with itself, and who takes no part.
func TestGross(t *testing.T) {
	for _, c := range []struct{ party, ledger, asset, want int }{
		{1, cash, 0, 78}, {1, cash, 1, 0}, {1, cash, 2, 0}, {1, securities, 0, 0}, {1, securities, 1, -3}, {1, securities, 2, -1},
		{2, cash, 0, -108}, {2, cash, 1, -9}, {2, cash, 2, 0}, {2, securities, 0, 5}, {2, securities, 1, 7}, {2, securities, 2, 1},
		{3, cash, 0, 30}, {3, cash, 1, 9}, {3, securities, 0, -5}, {3, securities, 1, -4}, {3, securities, 2, 0},
		{6, cash, 0, 0}, {6, securities, 1, 0},
		{0, cash, 0, 0}, {0, securities, 1, 0}, {4, cash, 0, 0}, {-1, cash, 0, 0}, {math.MinInt, securities, 1, 0}, {math.MaxInt, cash, 0, 0},
	} {
		if n := gross(t, market(), c.party, c.ledger, c.asset); n != c.want {
			t.Errorf("P19.1: Gross(%+v): %d", c, n)
		}
	}
	kept(t, market())
}

// TestGrossOfNone: of no trades, and of a ledger or an asset of which none moves
// anything, it is 0.
func TestGrossOfNone(t *testing.T) {
	for _, n := range far() {
		for party := range 7 {
			if a, b := gross(t, nil, party, n, 0), gross(t, []trade.Trade{}, n, securities, party); a != 0 || b != 0 {
				t.Errorf("P19.1: Gross of none: %d, %d", a, b)
			}
			if n != cash && n != securities && gross(t, market(), party, n, 0) != 0 {
				t.Errorf("P19.1: Gross of ledger %d", n)
			}
			if (n < 0 || n > 2) && (gross(t, market(), party, cash, n) != 0 || gross(t, market(), party, securities, n) != 0) {
				t.Errorf("P19.1: Gross of asset %d", n)
			}
		}
	}
}

// TestGrossOfAny: where trades are of odd parties, assets and amounts, they count as
// any others do.
func TestGrossOfAny(t *testing.T) {
	for _, n := range far() {
		for _, party := range far() {
			l := []trade.Trade{deal(party, party+1, n, 8, n, 5), deal(party+1, party, n, n, n, -n)}
			gross(t, l, party, cash, n)
			gross(t, l, party, securities, n)
			gross(t, l, party+1, cash, n)
			gross(t, l, party+1, securities, n)
			gross(t, l, party+1, 2, n)
			one := l[:1]
			if a, b := gross(t, one, party, cash, n), gross(t, one, party, securities, n); a != -8 || b != 5 {
				t.Errorf("P19.1: Gross of party %d, asset %d: %d, %d", party, n, a, b)
			}
		}
	}
}

// TestGrossWraps: sums past Go's greatest and smallest int are what Go's sums are.
func TestGrossWraps(t *testing.T) {
	most := deal(1, 2, 0, math.MaxInt, 0, math.MaxInt)
	least := deal(1, 2, 0, math.MinInt, 0, math.MinInt)
	amount := deal(1, 2, 0, greatest, 0, greatest)
	one := deal(1, 2, 0, 1, 0, 1)
	for _, c := range []struct {
		l    []trade.Trade
		gets int
	}{
		{[]trade.Trade{amount, amount}, math.MinInt},
		{[]trade.Trade{amount, amount, amount}, -greatest},
		{[]trade.Trade{amount, amount, amount, amount}, 0},
		{[]trade.Trade{amount, amount, amount, amount, one}, 1},
		{[]trade.Trade{most}, math.MaxInt},
		{[]trade.Trade{most, one}, math.MinInt},
		{[]trade.Trade{most, most}, -2},
		{[]trade.Trade{least}, math.MinInt},
		{[]trade.Trade{least, least}, 0},
		{[]trade.Trade{least, least, one}, 1},
		{[]trade.Trade{least, most}, -1},
	} {
		for _, ledger := range []int{cash, securities} {
			from, to := 1+ledger, 2-ledger
			if n := gross(t, c.l, to, ledger, 0); n != c.gets {
				t.Errorf("P19.1: who gets %s: %d, not %d", show(c.l), n, c.gets)
			}
			if n := gross(t, c.l, from, ledger, 0); n != -c.gets {
				t.Errorf("P19.1: who gives %s: %d, not %d", show(c.l), n, -c.gets)
			}
		}
	}
}

// TestSum holds Sum against numbers reckoned by hand.
func TestSum(t *testing.T) {
	l := []nets.Net{
		net(1, 2, cash, 0, 10), net(2, 1, cash, 0, 3), net(2, 1, cash, 1, 20), net(2, 1, securities, 0, 40), net(3, 2, cash, 0, 50),
		net(4, 4, cash, 0, 60), net(1, 1, cash, 0, 5), net(5, 6, 7, 8, 9), net(-1, 6, -2, -3, 4), net(1, 2, cash, 2, -6),
	}
	for _, c := range []struct{ party, ledger, asset, want int }{
		{1, cash, 0, -7}, {2, cash, 0, 57}, {3, cash, 0, -50}, {4, cash, 0, 0}, {9, cash, 0, 0}, {-1, cash, 0, 0},
		{1, cash, 1, 20}, {2, cash, 1, -20}, {3, cash, 1, 0}, {1, securities, 0, 40}, {2, securities, 0, -40}, {1, securities, 1, 0},
		{5, 7, 8, -9}, {6, 7, 8, 9}, {6, 7, 0, 0}, {6, cash, 8, 0}, {-1, -2, -3, -4}, {6, -2, -3, 4}, {6, -2, 3, 0},
		{1, cash, 2, 6}, {2, cash, 2, -6}, {1, 2, 0, 0}, {1, -1, 0, 0}, {1, cash, -1, 0}, {math.MinInt, math.MaxInt, math.MinInt, 0},
	} {
		if n := sum(t, l, c.party, c.ledger, c.asset); n != c.want {
			t.Errorf("P19.1: Sum(%+v): %d", c, n)
		}
		if sum(t, nil, c.party, c.ledger, c.asset) != 0 || sum(t, []nets.Net{}, c.party, c.ledger, c.asset) != 0 {
			t.Errorf("P19.1: Sum of none (%+v)", c)
		}
	}
}

// TestSumOfAny asks Sum of nets of all kinds of numbers.
func TestSumOfAny(t *testing.T) {
	for i, a := range far() {
		for k, b := range far() {
			l := []nets.Net{net(a, b, a, b, 8), net(b, a, a, b, far()[(i+k)%len(far())]), net(a, 3, a, b, math.MaxInt), net(3, b, b, a, math.MinInt)}
			for _, party := range []int{a, b, 3} {
				sum(t, l, party, a, b)
				sum(t, l, party, b, a)
			}
			if n := sum(t, l[:1], b, a, b); a != b && n != 8 {
				t.Errorf("P19.1: Sum of %d and %d: %d", a, b, n)
			}
		}
	}
}

// TestSumWraps: sums past Go's greatest and smallest int are what Go's sums are.
func TestSumWraps(t *testing.T) {
	for _, c := range []struct {
		amounts []int
		gets    int
	}{
		{[]int{greatest, greatest}, math.MinInt}, {[]int{greatest, greatest, greatest}, -greatest},
		{[]int{greatest, greatest, greatest, greatest, 6}, 6}, {[]int{math.MaxInt}, math.MaxInt}, {[]int{math.MaxInt, 1}, math.MinInt},
		{[]int{math.MaxInt, math.MaxInt}, -2}, {[]int{math.MinInt}, math.MinInt}, {[]int{math.MinInt, -1}, math.MaxInt},
		{[]int{math.MinInt, math.MinInt}, 0}, {[]int{-1, -2, 9}, 6},
	} {
		var l []nets.Net
		for _, n := range c.amounts {
			l = append(l, net(1, 2, securities, 3, n))
		}
		if a, b := sum(t, l, 2, securities, 3), sum(t, l, 1, securities, 3); a != c.gets || b != -c.gets {
			t.Errorf("P19.1: Sum of %v: %d, %d", c.amounts, a, b)
		}
	}
}
