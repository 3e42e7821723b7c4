package trade_test

import (
	"fmt"
	"math/rand"
	"testing"

	"counterfoil/api"
	"counterfoil/trade"
)

// pick answers who puts what next, of a few IDs and sides: mostly what is right, and
// often what another one has put.
func pick(r *rand.Rand, p *plain, ids, sides int) said {
	a := trade.Trade{
		ID: r.Intn(ids), Buyer: r.Intn(sides), Seller: r.Intn(sides), Cash: r.Intn(2), Price: 1 + r.Intn(2), Qty: 1 + r.Intn(2),
	}
	if len(p.all) > 0 && r.Intn(3) > 0 {
		a = p.all[r.Intn(len(p.all))].t
	}
	if r.Intn(8) == 0 {
		name := []string{"ID", "Buyer", "Seller", "Cash", "Price", "Asset", "Qty"}[r.Intn(7)]
		*fields(&a)[name] += r.Intn(5) - 2
	}
	who := []int{a.Buyer, a.Seller}[r.Intn(2)]
	if r.Intn(10) == 0 {
		who = r.Intn(sides+2) - 1
	}
	return said{who, a}
}

// rows are kinds of rows: how many IDs and sides, how many calls, and at which desk.
func rows() [][6]int {
	return [][6]int{
		{1, 3, 150, 16, 4, 4}, {1, 16, 200, 16, 4, 4}, {2, 4, 100, 4, 2, 1}, {6, 3, 200, 3, 2, 2},
		{6, 16, 600, 16, 4, 4}, {30, 5, 500, 5, 1, 1}, {40, 16, 1500, 16, 4, 4}, {400, 2, 900, 2, 2, 3}, {65536, 8, 700, 8, 3, 4},
	}
}

// TestManyCalls asks long rows of a desk and of a plain one.
func TestManyCalls(t *testing.T) {
	for seed := range 45 {
		r := rand.New(rand.NewSource(int64(seed)))
		k := rows()[seed%len(rows())]
		x := desk(t, k[3], k[4], k[5])
		came := map[api.Errno]int{}
		for n := range k[2] {
			s := pick(r, x.p, k[0], k[1])
			e := x.put(s.who, s.t)
			came[e]++
			if e == api.OK || n%20 == 0 {
				x.holds()
			}
		}
		x.holds()
		for _, e := range []api.Errno{api.OK, api.ErrRange, api.ErrParty, api.ErrExists} {
			if came[e] == 0 {
				t.Errorf("row %d never came to %d: %v", seed, e, came)
			}
		}
	}
}

// TestFullRows asks rows of desks that are full, or nearly so.
func TestFullRows(t *testing.T) {
	for seed := range 6 {
		r := rand.New(rand.NewSource(int64(seed) + 100))
		x := wide(t)
		for n := range 395 {
			x.put(n%16, between(n/16, n%16&^1, n%16|1, 1+seed%2*r.Intn(2)))
		}
		for n := range 200 {
			s := pick(r, x.p, 40, 16)
			e := x.put(s.who, s.t)
			if e == api.OK || n%20 == 0 {
				x.holds()
			}
		}
		if x.d.Len() != full {
			t.Errorf("P18.1: %d of %d", x.d.Len(), full)
		}
	}
}

// TestSameCalls asks the same rows of two desks: their answers are the same ones,
// whatever is asked of one of them between.
func TestSameCalls(t *testing.T) {
	for seed := range 20 {
		r := rand.New(rand.NewSource(int64(seed) + 1000))
		a, e := trade.New(6, 2, 2)
		b, f := trade.New(6, 2, 2)
		if e != api.OK || f != api.OK {
			t.Fatalf("P18.1: New: %d, %d", e, f)
		}
		p := &plain{parties: 6, cash: 2, assets: 2}
		for range 200 {
			s := pick(r, p, 8, 6)
			p.put(s.who, s.t)
			one, two := a.Put(s.who, s.t), b.Put(s.who, s.t)
			a.Matched()
			a.Open()
			if one != two {
				t.Fatalf("P0.5: Put(%d, %+v): %d and %d", s.who, s.t, one, two)
			}
		}
		one := fmt.Sprint(a.Matched(), a.Open(), a.Len())
		for range 20 {
			if two := fmt.Sprint(b.Matched(), b.Open(), b.Len()); one != two {
				t.Fatalf("P18.3: %s and %s", one, two)
			}
		}
	}
}

// TestRefusedChangeNothing asks a row with all that is refused in it, and one without:
// both desks tell the same.
func TestRefusedChangeNothing(t *testing.T) {
	for seed := range 20 {
		r := rand.New(rand.NewSource(int64(seed) + 2000))
		x, y := desk(t, 7, 2, 2), desk(t, 7, 2, 2)
		for range 250 {
			s := pick(r, x.p, 12, 7)
			if x.put(s.who, s.t) == api.OK {
				y.goes(s.who, s.t)
			}
		}
		x.holds()
		y.holds()
		if l, m := fmt.Sprint(x.d.Matched(), x.d.Open()), fmt.Sprint(y.d.Matched(), y.d.Open()); l != m {
			t.Fatalf("P18.1: %s and %s", l, m)
		}
	}
}
