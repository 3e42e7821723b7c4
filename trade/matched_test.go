package trade_test

import (
	"math/rand"
	"slices"
	"testing"

	"counterfoil/trade"
)

// TestOneSideAlone: what one side confirmed alone is open.
func TestOneSideAlone(t *testing.T) {
	for _, who := range []int{4, 9} {
		x := wide(t)
		for k, id := range []int{7, 65535, 0, 8, 6} {
			x.goes(who, deal(id))
			want := slices.Sorted(slices.Values([]int{7, 65535, 0, 8, 6}[:k+1]))
			x.tells(nil, want)
		}
	}
}

// others answers what n may be instead in a field: near to it, far from it, and such
// as are alike in a part of their bits.
func others(name string, n int) []int {
	switch name {
	case "Buyer", "Seller":
		return []int{0, 3, 5, 8, 10, 15}
	case "Cash", "Asset":
		return slices.DeleteFunc([]int{0, 1, 2, 3}, func(i int) bool { return i == n })
	}
	return []int{1, n - 1, n + 1, n + 256, n + 65536, n + 1<<32, n + 1<<40, n + 1<<61, greatest}
}

// TestDifferInOneField: two that differ in one field are no match, whichever comes
// first.
func TestDifferInOneField(t *testing.T) {
	for _, name := range []string{"Buyer", "Seller", "Cash", "Price", "Asset", "Qty"} {
		a, b := deal(7), deal(7)
		for _, n := range others(name, *fields(&a)[name]) {
			*fields(&b)[name] = n
			first, second := said{4, a}, said{9, b}
			if name == "Seller" {
				first, second = said{9, a}, said{4, b}
			}
			for range 2 {
				x := wide(t)
				x.goes(first.who, first.t)
				x.goes(second.who, second.t)
				x.tells(nil, []int{7})
				first, second = second, first
			}
		}
	}
}

// TestDifferInID: two that differ in the ID alone are open both.
func TestDifferInID(t *testing.T) {
	for _, id := range []int{0, 6, 8, 7 + 256, 7 + 32768, 65535} {
		x := wide(t)
		x.goes(4, deal(7))
		x.goes(9, deal(id))
		x.tells(nil, []int{min(7, id), max(7, id)})
		x.goes(9, deal(7))
		x.tells([]trade.Trade{deal(7)}, []int{id})
	}
}

// TestSidesChanged: who both tell that they bought, or that they sold, is no match; nor
// are two of which two fields are changed about.
func TestSidesChanged(t *testing.T) {
	a := trade.Trade{ID: 7, Buyer: 4, Seller: 9, Cash: 2, Price: 30, Asset: 3, Qty: 70}
	sides, assets, sums := a, a, a
	sides.Buyer, sides.Seller = a.Seller, a.Buyer
	assets.Cash, assets.Asset = a.Asset, a.Cash
	sums.Price, sums.Qty = a.Qty, a.Price
	for _, b := range []trade.Trade{sides, assets, sums} {
		for _, l := range [][2]int{{4, 9}, {9, 4}} {
			x := wide(t)
			x.goes(l[0], a)
			x.goes(l[1], b)
			x.tells(nil, []int{7})
		}
	}
}

// TestOpenOnce: an ID that several confirmed unlike is open once.
func TestOpenOnce(t *testing.T) {
	x := wide(t)
	for who := range 16 {
		x.goes(who, between(7, who, (who+1)%16, 5))
		x.tells(nil, []int{7})
	}
	for who := range 16 {
		x.goes(who, between(3, who&^1, who|1, 100+who))
		x.tells(nil, []int{3, 7})
	}
}

// order answers what comes of the IDs of l, where those that are even are confirmed by
// both, and the other ones by one alone.
func order(t *testing.T, l []int) {
	t.Helper()
	x := wide(t)
	var matched []trade.Trade
	var open []int
	for _, id := range l {
		x.put(4, deal(id))
	}
	for _, id := range l {
		if id%2 == 0 {
			x.put(9, deal(id))
			matched = append(matched, deal(id))
		} else {
			open = append(open, id)
		}
	}
	slices.SortFunc(matched, func(a, b trade.Trade) int { return a.ID - b.ID })
	slices.Sort(open)
	x.tells(matched, open)
	x.holds()
}

// TestRising: whatever the order of the calls, both are told rising by ID.
func TestRising(t *testing.T) {
	ids := []int{0, 1, 2, 3, 9, 10, 99, 100, 255, 256, 999, 1000, 32767, 32768, 65534, 65535}
	order(t, ids)
	slices.Reverse(ids)
	order(t, ids)
	r := rand.New(rand.NewSource(1))
	for range 60 {
		r.Shuffle(len(ids), func(i, j int) { ids[i], ids[j] = ids[j], ids[i] })
		order(t, ids)
	}
	for range 10 {
		order(t, r.Perm(65536)[:full/2])
	}
}

// TestRisingByIDAlone: no other field has a say in the order.
func TestRisingByIDAlone(t *testing.T) {
	x := wide(t)
	var want []trade.Trade
	for id := range 15 {
		a := trade.Trade{ID: id, Buyer: 15 - id/2, Seller: id / 3, Cash: 3 - id/4, Price: 50 - id, Asset: 3 - id/5, Qty: 90 - id}
		want = append(want, a)
		x.goes(a.Seller, a)
	}
	for k := range want {
		x.goes(want[14-k].Buyer, want[14-k])
	}
	x.tells(want, nil)
}

// TestLen: each confirmation counts, matched or not, alike or not.
func TestLen(t *testing.T) {
	x := wide(t)
	for k := range 16 {
		x.goes(k, between(7, k&^1, k|1, 5))
		if n := x.d.Len(); n != 2*k+1 {
			t.Errorf("P18.2: Len %d, not %d", n, 2*k+1)
		}
		x.goes(k, between(100+k, k, (k+1)%16, 5))
		if n := x.d.Len(); n != 2*k+2 {
			t.Errorf("P18.2: Len %d, not %d", n, 2*k+2)
		}
	}
}
