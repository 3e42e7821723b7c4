package trade_test

import (
	"math"
	"testing"

	"counterfoil/api"
	"counterfoil/trade"
)

// TestLimits holds the limits by their values: the other tests lean on these.
func TestLimits(t *testing.T) {
	if api.MaxAmount != greatest || 2*api.MaxTrades != full || api.MaxParties != 16 || api.MaxAssets != 4 {
		t.Error("the limits of api are others")
	}
	if api.OK != 0 || api.ErrRange != 1 || api.ErrFull != 12 || api.ErrParty != 14 || api.ErrExists != 15 {
		t.Error("the numbers of api are others")
	}
}

// bounds are what each field may be, by its name, among 12 parties, 3 assets of cash
// and 4 other ones: the least and the greatest one.
func bounds() map[string][2]int {
	return map[string][2]int{
		"ID": {0, 65535}, "Buyer": {0, 11}, "Seller": {0, 11}, "Cash": {0, 2}, "Asset": {0, 3},
		"Price": {1, greatest}, "Qty": {1, greatest},
	}
}

// may asks May of t among 12, 3 and 4.
func may(t *testing.T, x trade.Trade, want api.Errno) {
	t.Helper()
	if e := trade.May(x, 12, 3, 4); e != want {
		t.Errorf("P18.1: May(%+v): %d, not %d", x, e, want)
	}
}

func TestMayOfARightOne(t *testing.T) {
	may(t, deal(7), api.OK)
	may(t, trade.Trade{Buyer: 1, Price: 1, Qty: 1}, api.OK)
	may(t, trade.Trade{Seller: 1, Price: 1, Qty: 1}, api.OK)
	may(t, trade.Trade{}, api.ErrRange)
}

// TestMayOfEachField turns one field at a time: at its bounds, one within, one beyond,
// and far off.
func TestMayOfEachField(t *testing.T) {
	for name, b := range bounds() {
		turn := func(n int, want api.Errno) {
			x := deal(7)
			*fields(&x)[name] = n
			may(t, x, want)
		}
		for _, n := range []int{b[0], b[0] + 1, b[1] - 1, b[1]} {
			turn(n, api.OK)
		}
		for _, n := range append(far(), b[0]-1, b[0]-2, b[1]+1, b[1]+2) {
			turn(n, api.ErrRange)
		}
	}
}

// TestMayOfGreatNumbers: what wraps in fewer bits is out of range all the same.
func TestMayOfGreatNumbers(t *testing.T) {
	for name, b := range bounds() {
		for _, shift := range []int{17, 31, 32, 33, 48, 61} {
			for _, n := range []int{b[0], b[1]} {
				if name == "Price" || name == "Qty" {
					continue
				}
				x := deal(7)
				*fields(&x)[name] = n + 1<<shift
				may(t, x, api.ErrRange)
				*fields(&x)[name] = n - 1<<shift
				may(t, x, api.ErrRange)
			}
		}
	}
}

// TestMayOfOneParty: both sides one, each of them.
func TestMayOfOneParty(t *testing.T) {
	for party := range 12 {
		x := deal(7)
		x.Buyer, x.Seller = party, party
		may(t, x, api.ErrParty)
		for other := range 12 {
			if x.Seller = other; other != party {
				may(t, x, api.OK)
			}
		}
	}
}

// TestMayRangeFirst: what is out of range is told ahead of both sides being one.
func TestMayRangeFirst(t *testing.T) {
	for name, b := range bounds() {
		for _, n := range append(far(), b[0]-1, b[1]+1) {
			x := deal(7)
			x.Buyer, x.Seller = 5, 5
			*fields(&x)[name] = n
			may(t, x, api.ErrRange)
		}
	}
	for _, n := range append(far(), 12, 13) {
		x := deal(7)
		x.Buyer, x.Seller = n, n
		may(t, x, api.ErrRange)
	}
}

// counts are counts of any kind.
func counts() []int {
	return []int{
		0, 1, 2, 3, 4, 5, 15, 16, 17, 1000, 1 << 31, 1 << 32, 1<<32 + 1, greatest, greatest + 1,
		math.MaxInt - 1, math.MaxInt, -1, -2, -16, -1 << 31, -1 << 32, math.MinInt, math.MinInt + 1, math.MinInt + 2,
	}
}

// TestMayOfCounts: whatever the counts are, each side is one of 0 to one less.
func TestMayOfCounts(t *testing.T) {
	for _, n := range counts() {
		for _, i := range append(counts(), n-1, n-2, n+1) {
			in := i >= 0 && i < n
			for which, x := range []trade.Trade{
				{Buyer: i, Seller: 0, Price: 1, Qty: 1}, {Buyer: 0, Seller: i, Price: 1, Qty: 1},
				{Buyer: 1, Cash: i, Price: 1, Qty: 1}, {Buyer: 1, Asset: i, Price: 1, Qty: 1},
			} {
				c := [][3]int{{n, 1, 1}, {n, 1, 1}, {2, n, 1}, {2, 1, n}}[which]
				want := api.OK
				if !in {
					want = api.ErrRange
				} else if x.Buyer == x.Seller {
					want = api.ErrParty
				}
				if e := trade.May(x, c[0], c[1], c[2]); e != want {
					t.Errorf("P18.1: May(%+v, %v): %d, not %d", x, c, e, want)
				}
			}
		}
	}
}

// TestMayOfNoParty: where a count is 0 or less, nothing may be.
func TestMayOfNoParty(t *testing.T) {
	for _, n := range []int{0, -1, -2, math.MinInt, math.MinInt + 1} {
		for _, c := range [][3]int{{n, 4, 4}, {16, n, 4}, {16, 4, n}, {n, n, n}} {
			for _, x := range []trade.Trade{deal(7), between(0, 0, 1, 1), {Buyer: 1, Price: 1, Qty: 1}, {Price: 1, Qty: 1}} {
				if e := trade.May(x, c[0], c[1], c[2]); e != api.ErrRange {
					t.Errorf("P18.1: May(%+v, %v): %d", x, c, e)
				}
			}
		}
	}
}

// TestMayOfMany asks all that a few numbers of each field come to, against the
// chapter's words.
func TestMayOfMany(t *testing.T) {
	ids, sides, assets := []int{-1, 0, 65535, 65536}, []int{-1, 0, 1, 2, 3}, []int{-1, 0, 1, 2}
	amounts := []int{-1, 0, 1, greatest, greatest + 1}
	each := func(l []int, do func(n int)) {
		for _, n := range l {
			do(n)
		}
	}
	var x trade.Trade
	each(ids, func(n int) {
		x.ID = n
		each(sides, func(n int) {
			x.Buyer = n
			each(sides, func(n int) {
				x.Seller = n
				each(assets, func(n int) {
					x.Cash = n
					each(assets, func(n int) {
						x.Asset = n
						each(amounts, func(n int) {
							x.Price = n
							each(amounts, func(n int) {
								x.Qty = n
								if e, want := trade.May(x, 3, 1, 2), plainMay(x, 3, 1, 2); e != want {
									t.Fatalf("P18.1: May(%+v): %d, not %d", x, e, want)
								}
							})
						})
					})
				})
			})
		})
	})
}
