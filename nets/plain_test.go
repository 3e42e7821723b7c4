package nets_test

import (
	"fmt"
	"math"
	"math/big"
	"slices"
	"testing"

	"counterfoil/api"
	"counterfoil/nets"
	"counterfoil/trade"
)

// greatest is the greatest amount.
const greatest = 4611686018427387904

// cash and securities are the ledgers.
const (
	cash       = 0
	securities = 1
)

// TestLimits holds the numbers of api by their values: the other tests lean on these.
func TestLimits(t *testing.T) {
	if api.MaxAmount != greatest || api.Cash != cash || api.Securities != securities || api.OK != 0 || api.ErrRange != 1 {
		t.Error("the numbers of api are others")
	}
}

// given answers what a gives b by l in all, without bounds, in the chapter's words:
// Price of the asset Cash from the Buyer to the Seller, and Qty of the Asset from the
// Seller to the Buyer.
func given(l []trade.Trade, a, b, ledger, asset int) *big.Int {
	sum := new(big.Int)
	for _, t := range l {
		if ledger == cash && t.Buyer == a && t.Seller == b && t.Cash == asset {
			sum.Add(sum, big.NewInt(int64(t.Price)))
		}
		if ledger == securities && t.Seller == a && t.Buyer == b && t.Asset == asset {
			sum.Add(sum, big.NewInt(int64(t.Qty)))
		}
	}
	return sum
}

// among answers the parties and the assets of l, rising, each once.
func among(l []trade.Trade) (parties, assets []int) {
	for _, t := range l {
		parties = append(parties, t.Buyer, t.Seller)
		assets = append(assets, t.Cash, t.Asset)
	}
	slices.Sort(parties)
	slices.Sort(assets)
	return slices.Compact(parties), slices.Compact(assets)
}

// plainOf is Of in the chapter's words: it asks of each two parties, each ledger and
// each asset what is given.
func plainOf(l []trade.Trade) ([]nets.Net, api.Errno) {
	var told []nets.Net
	parties, assets := among(l)
	for i, a := range parties {
		for _, b := range parties[i+1:] {
			for _, ledger := range []int{cash, securities} {
				for _, asset := range assets {
					up, down := given(l, a, b, ledger, asset), given(l, b, a, ledger, asset)
					if !amount(up) || !amount(down) {
						return nil, api.ErrRange
					}
					more := new(big.Int).Sub(up, down)
					switch more.Sign() {
					case 1:
						told = append(told, nets.Net{From: a, To: b, Ledger: ledger, Asset: asset, Amount: int(more.Int64())})
					case -1:
						told = append(told, nets.Net{From: b, To: a, Ledger: ledger, Asset: asset, Amount: -int(more.Int64())})
					}
				}
			}
		}
	}
	return told, api.OK
}

// amount tells if n is 0 to the greatest amount.
func amount(n *big.Int) bool {
	return n.Sign() >= 0 && n.Cmp(big.NewInt(greatest)) <= 0
}

// plainGross is Gross in the chapter's words, first without bounds.
func plainGross(l []trade.Trade, party, ledger, asset int) int {
	sum := new(big.Int)
	for _, t := range l {
		one := []trade.Trade{t}
		for _, other := range slices.Compact([]int{t.Buyer, t.Seller}) {
			sum.Add(sum, given(one, other, party, ledger, asset))
			sum.Sub(sum, given(one, party, other, ledger, asset))
		}
	}
	return wrapped(sum)
}

// plainSum is Sum in the chapter's words, first without bounds.
func plainSum(l []nets.Net, party, ledger, asset int) int {
	gets, gives := new(big.Int), new(big.Int)
	for _, n := range l {
		if n.Ledger == ledger && n.Asset == asset {
			if n.To == party {
				gets.Add(gets, big.NewInt(int64(n.Amount)))
			}
			if n.From == party {
				gives.Add(gives, big.NewInt(int64(n.Amount)))
			}
		}
	}
	return wrapped(gets.Sub(gets, gives))
}

// wrapped answers n as Go's int sums tell it: of all numbers that differ from it by
// 2^64 some times, the one that is an int.
func wrapped(n *big.Int) int {
	all := new(big.Int).Lsh(big.NewInt(1), 64)
	half := new(big.Int).Lsh(big.NewInt(1), 63)
	n = new(big.Int).Add(n, half)
	n.Mod(n, all)
	n.Sub(n, half)
	return int(n.Int64())
}

// of asks Of, which must tell what the plain one tells, and change nothing of l.
func of(t *testing.T, l []trade.Trade) ([]nets.Net, api.Errno) {
	t.Helper()
	was := slices.Clone(l)
	got, e := nets.Of(l)
	want, f := plainOf(l)
	if e != f || !slices.Equal(got, want) {
		t.Fatalf("P19.1: Of(%s): %s, %d, not %s, %d", show(l), show(got), e, show(want), f)
	}
	if e != api.OK && len(got) != 0 {
		t.Fatalf("P0.3: Of(%s): %s beside %d", show(l), show(got), e)
	}
	if !slices.Equal(l, was) {
		t.Fatalf("P19.2: Of has made %s of %s", show(l), show(was))
	}
	return got, e
}

// gross asks Gross, which must tell what the plain one tells, and change nothing of l.
func gross(t *testing.T, l []trade.Trade, party, ledger, asset int) int {
	t.Helper()
	was := slices.Clone(l)
	got, want := nets.Gross(l, party, ledger, asset), plainGross(l, party, ledger, asset)
	if got != want {
		t.Fatalf("P19.1: Gross(%s, %d, %d, %d): %d, not %d", show(l), party, ledger, asset, got, want)
	}
	if !slices.Equal(l, was) {
		t.Fatalf("P19.2: Gross has made %s of %s", show(l), show(was))
	}
	return got
}

// sum asks Sum, which must tell what the plain one tells, and change nothing of l.
func sum(t *testing.T, l []nets.Net, party, ledger, asset int) int {
	t.Helper()
	was := slices.Clone(l)
	got, want := nets.Sum(l, party, ledger, asset), plainSum(l, party, ledger, asset)
	if got != want {
		t.Fatalf("P19.1: Sum(%s, %d, %d, %d): %d, not %d", show(l), party, ledger, asset, got, want)
	}
	if !slices.Equal(l, was) {
		t.Fatalf("P19.2: Sum has made %s of %s", show(l), show(was))
	}
	return got
}

// tells asks Of, which must answer what a test says in so many words.
func tells(t *testing.T, l []trade.Trade, want ...nets.Net) {
	t.Helper()
	got, e := of(t, l)
	if e != api.OK || !slices.Equal(got, want) {
		t.Errorf("P19.1: Of(%s): %s, %d, not %s", show(l), show(got), e, show(want))
	}
}

// refused asks Of, which must answer ErrRange and nothing beside it.
func refused(t *testing.T, l ...trade.Trade) {
	t.Helper()
	got, e := of(t, l)
	if e != api.ErrRange || len(got) != 0 {
		t.Errorf("P19.1: Of(%s): %s, %d, not ErrRange", show(l), show(got), e)
	}
}

// kept: what Of tells of l comes to what l says, for each party, ledger and asset, and
// for some that are none.
func kept(t *testing.T, l []trade.Trade) {
	t.Helper()
	left, e := of(t, l)
	if e != api.OK {
		t.Fatalf("P19.1: Of(%s): %d", show(l), e)
	}
	parties, assets := among(l)
	for _, party := range append(parties, -3, 77, math.MaxInt) {
		for _, ledger := range []int{cash, securities, -1, 2} {
			for _, asset := range append(assets, -3, 77) {
				if a, b := sum(t, left, party, ledger, asset), gross(t, l, party, ledger, asset); a != b {
					t.Fatalf("P19.3: of %s party %d has %d of asset %d of ledger %d, not %d", show(l), party, a, asset, ledger, b)
				}
			}
		}
	}
}

// ordered: the nets of l stand in the order that the chapter names, and none is 0.
func ordered(t *testing.T, l []nets.Net) {
	t.Helper()
	key := func(n nets.Net) []int {
		return []int{min(n.From, n.To), max(n.From, n.To), n.Ledger, n.Asset}
	}
	for i, n := range l {
		if n.Amount < 1 || n.From == n.To {
			t.Fatalf("P19.1: a net %+v", n)
		}
		if i > 0 && slices.Compare(key(l[i-1]), key(n)) >= 0 {
			t.Fatalf("P19.1: %+v ahead of %+v", l[i-1], n)
		}
	}
}

// net answers a net.
func net(from, to, ledger, asset, amount int) nets.Net {
	return nets.Net{From: from, To: to, Ledger: ledger, Asset: asset, Amount: amount}
}

// deal answers a trade, with an ID that is of no matter.
func deal(buyer, seller, money, price, asset, qty int) trade.Trade {
	return trade.Trade{ID: 9, Buyer: buyer, Seller: seller, Cash: money, Price: price, Asset: asset, Qty: qty}
}

// pays answers a trade by which one gives another one cash alone, of asset 1.
func pays(from, to, price int) trade.Trade { return deal(from, to, 1, price, 1, 0) }

// delivers answers a trade by which one gives another one securities alone, of asset 1.
func delivers(from, to, qty int) trade.Trade { return deal(to, from, 1, 0, 1, qty) }

// show answers a list as a text, of a long one the beginning.
func show(l any) string {
	s := fmt.Sprintf("%+v", l)
	if len(s) > 1000 {
		return s[:1000] + " .."
	}
	return s
}

// far are numbers of all sizes, of which a party or an asset may be one.
func far() []int {
	return []int{
		0, 1, -1, 2, -2, 15, 16, 17, -16, 65535, 65536, 1 << 31, 1 << 32, 1<<32 + 1, -1 << 32, -1<<32 + 1,
		greatest, greatest + 1, -greatest, math.MaxInt, math.MaxInt - 1, math.MinInt, math.MinInt + 1,
	}
}
