package purse

import (
	"math"
	"slices"
	"testing"

	"counterfoil/api"
)

// TestLimits holds the limits by their values.
func TestLimits(t *testing.T) {
	if api.MaxParties != 16 || api.MaxAssets != 4 || api.MaxAmount != most {
		t.Error("the limits of api are others")
	}
	if api.OK != 0 || api.ErrRange != 1 || api.ErrFunds != 7 || api.ErrParty != 14 {
		t.Error("the numbers of api are others")
	}
}

// TestSizes asks for so many parties with so many assets, each way.
func TestSizes(t *testing.T) {
	for _, parties := range []int{0, 1, 2, 3, 4, 5, 8, 15, 16, 17, 18, 32, 255, 256, 258, 1000} {
		for _, assets := range []int{0, 1, 2, 3, 4, 5, 6, 8, 16, 255, 256, 257, 1000} {
			l := grid(parties, assets)
			p, e := New(l)
			fits := 2 <= parties && parties <= 16 && 1 <= assets && assets <= 4
			if fits != (e == api.OK) || fits != (p != nil) || !fits && e != api.ErrRange {
				t.Errorf("P9.1: %d parties, %d assets: %d, a Purse: %t", parties, assets, e, p != nil)
			}
			begins(t, l, "P9.1: sizes")
		}
	}
	for _, l := range [][][]int{nil, {}, {nil}, {{}}, {nil, nil}, {{}, {}}, {nil, {}}, {{}, nil}, make([][]int, 16), make([][]int, 17)} {
		if p, e := New(l); p != nil || e != api.ErrRange {
			t.Errorf("P9.1: New(%v): %d, a Purse: %t", l, e, p != nil)
		}
	}
}

// TestUnlikeRows makes one row longer or shorter than the others, at each place.
func TestUnlikeRows(t *testing.T) {
	for _, parties := range []int{2, 3, 15, 16} {
		for assets := range 6 {
			for other := range 6 {
				for at := range parties {
					l := grid(parties, assets)
					l[at] = grid(parties, other)[at]
					if p, e := New(l); assets != other && (p != nil || e != api.ErrRange) {
						t.Errorf("P9.1: %d parties, %d assets, row %d has %d: %d", parties, assets, at, other, e)
					}
					begins(t, l, "P9.1: unlike rows")
				}
			}
		}
	}
}

// TestNilRow leaves out one row, at each place.
func TestNilRow(t *testing.T) {
	for _, parties := range []int{2, 3, 16, 17} {
		for assets := 1; assets < 5; assets++ {
			for at := range parties {
				l := grid(parties, assets)
				l[at] = nil
				if p, e := New(l); p != nil || e != api.ErrRange {
					t.Errorf("P9.1: %d parties, %d assets, row %d is nil: %d", parties, assets, at, e)
				}
			}
		}
	}
}

// TestBalances puts each number at each place, where all else is 0 or some.
func TestBalances(t *testing.T) {
	for _, parties := range []int{2, 3, 16} {
		for assets := 1; assets < 5; assets++ {
			for party := range parties {
				for asset := range assets {
					for _, n := range amounts() {
						l := make([][]int, parties)
						for i := range l {
							l[i] = make([]int, assets)
						}
						l[party][asset] = n
						if p, e := New(l); (e == api.OK) != (0 <= n && n <= most) || (e == api.OK) != (p != nil) {
							t.Errorf("P9.1: %d beside 0s: %d", n, e)
						}
						begins(t, l, "P9.1: beside 0s")
						l = grid(parties, assets)
						l[party][asset] = n
						begins(t, l, "P9.1: beside some")
					}
				}
			}
		}
	}
}

// TestPairs asks for every two amounts that two parties have, of one asset of
// some, and with other parties about.
func TestPairs(t *testing.T) {
	for _, a := range amounts() {
		for _, b := range amounts() {
			for _, l := range [][][]int{
				{{a}, {b}}, {{7, a}, {8, b}}, {{a, 7}, {b, 8}}, {{a, b}, {0, 0}}, {{a, 1}, {0, b}},
				{{0}, {a}, {b}}, {{a}, {0}, {b}}, {{a}, {b}, {0}}, {{1, 0, a, 0}, {0, 1, b, 0}, {0, 0, 0, 1}},
			} {
				begins(t, l, "P9.1: two amounts")
			}
		}
	}
}

// TestSums asks for sums at the bound, and for such as wrap, or are below it
// again with the last ones.
func TestSums(t *testing.T) {
	for i, c := range []struct {
		l []int // what the parties have
		e api.Errno
	}{
		{[]int{0, 0}, api.OK},
		{[]int{most, 0}, api.OK},
		{[]int{0, most}, api.OK},
		{[]int{most - 1, 1}, api.OK},
		{[]int{1, most - 1}, api.OK},
		{[]int{most / 2, most / 2}, api.OK},
		{[]int{most / 4, most / 4, most / 4, most / 4}, api.OK},
		{[]int{most / 4, most / 4, most / 4, most/4 + 1}, api.ErrRange},
		{[]int{most, 1}, api.ErrRange},
		{[]int{1, most}, api.ErrRange},
		{[]int{most / 2, most/2 + 1}, api.ErrRange},
		{[]int{most, most}, api.ErrRange},
		{[]int{most, 0, 0, 1}, api.ErrRange},
		{[]int{0, 0, most, 1}, api.ErrRange},
		{[]int{most, most, most}, api.ErrRange},
		{[]int{most, most, most, most}, api.ErrRange},
		{[]int{most, most, most, most, 5}, api.ErrRange},
		{slices.Repeat([]int{most / 16}, 16), api.OK},
		{append(slices.Repeat([]int{most / 16}, 15), most/16+1), api.ErrRange},
		{slices.Repeat([]int{most}, 16), api.ErrRange},
		{[]int{most, 1, -1}, api.ErrRange},
		{[]int{-1, most, 1}, api.ErrRange},
		{[]int{most + 1, -1}, api.ErrRange},
		{[]int{-1, most + 1}, api.ErrRange},
		{[]int{1, -1}, api.ErrRange},
		{[]int{5, -1}, api.ErrRange},
		{[]int{math.MaxInt, math.MaxInt, 2}, api.ErrRange},
		{[]int{math.MaxInt, math.MinInt}, api.ErrRange},
		{[]int{math.MinInt, math.MinInt}, api.ErrRange},
	} {
		for assets := 1; assets < 5; assets++ {
			for at := range assets {
				l := grid(len(c.l), assets)
				for party, n := range c.l {
					l[party][at] = n
				}
				if p, e := New(l); e != c.e || (p != nil) != (e == api.OK) {
					t.Errorf("P9.1: sums, case %d, asset %d of %d: %d, not %d", i, at, assets, e, c.e)
				}
				begins(t, l, "P9.1: sums")
			}
		}
	}
}

// TestEachSumAlone: each asset's sum may be the greatest amount, and each one is
// looked at.
func TestEachSumAlone(t *testing.T) {
	for _, parties := range []int{2, 3, 16} {
		l := make([][]int, parties)
		for party := range l {
			l[party] = make([]int, 4)
		}
		for asset := range 4 {
			l[asset%parties][asset] = most
		}
		p := made(t, l...)
		for asset := range 4 {
			if p.Total(asset) != most || p.Has(asset%parties, asset) != most {
				t.Errorf("P9.1: asset %d: %d of %d", asset, p.Has(asset%parties, asset), p.Total(asset))
			}
		}
		for asset := range 4 {
			other := (asset + 1) % parties
			l[other][asset] = 1
			if p, e := New(l); p != nil || e != api.ErrRange {
				t.Errorf("P9.1: asset %d is one more: %d", asset, e)
			}
			l[other][asset] = 0
		}
	}
}

// TestWritten holds some answers as they are read off the chapter.
func TestWritten(t *testing.T) {
	p := made(t, []int{10, 200, 3000}, []int{40, 500, 6000})
	if p.Parties() != 2 || p.Assets() != 3 {
		t.Errorf("P9.1: %d parties, %d assets", p.Parties(), p.Assets())
	}
	for _, c := range []struct{ party, asset, n int }{
		{0, 0, 10}, {0, 1, 200}, {0, 2, 3000}, {1, 0, 40}, {1, 1, 500}, {1, 2, 6000},
		{2, 0, 0}, {2, 1, 0}, {-1, 0, 0}, {-1, 2, 0}, {0, 3, 0}, {1, 3, 0}, {0, -1, 0}, {1, -1, 0}, {2, 3, 0}, {-1, -1, 0},
		{math.MaxInt, 0, 0}, {math.MinInt, 0, 0}, {0, math.MaxInt, 0}, {0, math.MinInt, 0},
	} {
		if n := p.Has(c.party, c.asset); n != c.n {
			t.Errorf("P9.1: Has(%d, %d): %d, not %d", c.party, c.asset, n, c.n)
		}
	}
	for _, c := range []struct{ asset, n int }{
		{0, 50}, {1, 700}, {2, 9000}, {3, 0}, {4, 0}, {-1, 0}, {math.MaxInt, 0}, {math.MinInt, 0},
	} {
		if n := p.Total(c.asset); n != c.n {
			t.Errorf("P9.1: Total(%d): %d, not %d", c.asset, n, c.n)
		}
	}
}
