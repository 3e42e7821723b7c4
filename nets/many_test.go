package nets_test

import (
	"fmt"
	"math/rand"
	"slices"
	"testing"

	"counterfoil/api"
	"counterfoil/nets"
	"counterfoil/trade"
)

// kind is a kind of rows of trades: between how many parties, of how many assets, up
// to which amount.
type kind struct{ parties, assets, most int }

// kinds are some, of which the last ones come to more than the greatest amount now and
// then.
func kinds() []kind {
	return []kind{
		{2, 1, 3}, {2, 4, 9}, {3, 1, 2}, {3, 2, 1000}, {5, 2, 9}, {16, 4, 50}, {16, 1, 1}, {40, 9, 7}, {200, 1, 3},
		{2, 1, greatest / 8}, {3, 1, greatest / 4}, {4, 2, greatest},
	}
}

// row answers n trades of a kind, between two that are not one.
func row(r *rand.Rand, k kind, n int) []trade.Trade {
	var l []trade.Trade
	for range n {
		x := deal(r.Intn(k.parties), 0, r.Intn(k.assets), 1+r.Intn(k.most), r.Intn(k.assets), 1+r.Intn(k.most))
		x.Seller = (x.Buyer + 1 + r.Intn(k.parties-1)) % k.parties
		x.ID = r.Intn(65536)
		l = append(l, x)
	}
	return l
}

// TestRows holds rows of trades against the plain reckoning; what is left comes to what
// the trades say.
func TestRows(t *testing.T) {
	came := map[api.Errno]int{}
	for seed := range 360 {
		r := rand.New(rand.NewSource(int64(seed)))
		k := kinds()[seed%len(kinds())]
		l := row(r, k, r.Intn(40))
		left, e := of(t, l)
		came[e]++
		if e == api.OK {
			ordered(t, left)
			kept(t, l)
		}
	}
	if came[api.OK] < 100 || came[api.ErrRange] < 20 {
		t.Errorf("what came: %v", came)
	}
}

// TestLongRows asks as many trades as a desk matches, and many more.
func TestLongRows(t *testing.T) {
	for i, n := range []int{200, 200, 200, 1000, 3000} {
		r := rand.New(rand.NewSource(int64(i) + 500))
		l := row(r, kind{3 + i%4, 1 + i%3, 1000}, n)
		left, _ := of(t, l)
		ordered(t, left)
		kept(t, l)
	}
}

// TestOddRows asks rows of trades of any numbers: amounts that are none, parties and
// assets of all sizes, both sides one.
func TestOddRows(t *testing.T) {
	came := map[api.Errno]int{}
	for seed := range 2000 {
		r := rand.New(rand.NewSource(int64(seed) + 1000))
		odd := func() int { return far()[r.Intn(len(far()))] }
		some := func() int { return []int{0, 3, -3, odd(), 1 << 61}[r.Intn(2+seed%4)] }
		side := func() int { return []int{1, 2, -5, odd()}[r.Intn(2+seed%3)] }
		var l []trade.Trade
		for range r.Intn(7) {
			x := deal(side(), side(), side(), some(), side(), some())
			x.ID = odd()
			l = append(l, x)
		}
		left, e := of(t, l)
		came[e]++
		if e == api.OK {
			ordered(t, left)
			kept(t, l)
		}
		for _, x := range l {
			gross(t, l, x.Buyer, cash, x.Cash)
			gross(t, l, x.Seller, securities, x.Asset)
			gross(t, l, side(), odd(), side())
		}
	}
	if came[api.OK] < 500 || came[api.ErrRange] < 500 {
		t.Errorf("what came: %v", came)
	}
}

// TestTurnedAbout: the order of the trades is of no matter, and one that is followed by
// its undoing is as none.
func TestTurnedAbout(t *testing.T) {
	for seed := range 100 {
		r := rand.New(rand.NewSource(int64(seed) + 4000))
		l := row(r, kinds()[seed%len(kinds())], 30)
		left, e := of(t, l)
		for range 5 {
			r.Shuffle(len(l), func(i, k int) { l[i], l[k] = l[k], l[i] })
			if again, f := nets.Of(l); e != f || !slices.Equal(again, left) {
				t.Fatalf("P19.1: Of(%s): %s, %d, not %s, %d", show(l), show(again), f, show(left), e)
			}
		}
		if e != api.OK {
			continue
		}
		undone := slices.Clone(l)
		for _, x := range l {
			x.Buyer, x.Seller = x.Seller, x.Buyer
			undone = append(undone, x)
		}
		if none, f := of(t, undone); f == api.OK && len(none) > 0 {
			t.Fatalf("P19.1: all is undone, and there are %s", show(none))
		}
	}
}

// TestOfADesk: what a desk has matched may be handed in as it is.
func TestOfADesk(t *testing.T) {
	d, e := trade.New(3, 2, 2)
	if e != api.OK {
		t.Fatal(e)
	}
	for i, x := range []trade.Trade{deal(1, 2, 0, 50, 1, 6), deal(2, 1, 0, 20, 0, 3), deal(2, 0, 1, 7, 1, 1)} {
		x.ID = i
		d.Put(x.Buyer, x)
		if i < 2 {
			d.Put(x.Seller, x)
		}
	}
	tells(t, d.Matched(), net(1, 2, cash, 0, 30), net(1, 2, securities, 0, 3), net(2, 1, securities, 1, 6))
	kept(t, d.Matched())
}

// TestSameAgain: a call behind others tells the same.
func TestSameAgain(t *testing.T) {
	for seed := range 30 {
		r := rand.New(rand.NewSource(int64(seed) + 6000))
		k := kinds()[seed%len(kinds())]
		l, other := row(r, k, 40), row(r, k, 40)
		told := func() string {
			left, e := nets.Of(l)
			return fmt.Sprint(left, e, nets.Gross(l, 1, cash, 0), nets.Sum(left, 1, cash, 0))
		}
		first := told()
		for range 20 {
			nets.Of(other)
			nets.Gross(other, 1, cash, 0)
			if again := told(); again != first {
				t.Fatalf("P0.5: %s, and then %s", first, again)
			}
		}
	}
}
