package trade_test

import (
	"fmt"
	"math"
	"slices"
	"testing"

	"counterfoil/api"
	"counterfoil/trade"
)

// greatest is the greatest amount, and full how many confirmations there may be.
const (
	greatest = 4611686018427387904
	full     = 400
)

// said is one confirmation: who put it, and what of.
type said struct {
	who int
	t   trade.Trade
}

// plain is a desk in the chapter's words: it keeps all that was confirmed, and looks
// through all pairs of it.
type plain struct {
	parties, cash, assets int
	all                   []said
}

// none tells if i is none of 0 to n - 1.
func none(i, n int) bool {
	return n <= 0 || i < 0 || i > n-1
}

func plainMay(t trade.Trade, parties, cash, assets int) api.Errno {
	for _, wrong := range []bool{
		t.ID < 0, t.ID > 65535,
		none(t.Buyer, parties), none(t.Seller, parties),
		none(t.Cash, cash), none(t.Asset, assets),
		t.Price <= 0, t.Price > greatest, t.Qty <= 0, t.Qty > greatest,
	} {
		if wrong {
			return api.ErrRange
		}
	}
	if t.Buyer == t.Seller {
		return api.ErrParty
	}
	return api.OK
}

func (p *plain) put(who int, t trade.Trade) api.Errno {
	if e := plainMay(t, p.parties, p.cash, p.assets); e != api.OK {
		return e
	}
	if !(who == t.Buyer || who == t.Seller) {
		return api.ErrParty
	}
	for _, s := range p.all {
		if s.who == who && s.t.ID == t.ID {
			return api.ErrExists
		}
	}
	if len(p.all) >= full {
		return api.ErrFull
	}
	p.all = append(p.all, said{who, t})
	return api.OK
}

// alike tells if two trades are alike in all.
func alike(a, b trade.Trade) bool {
	return a.ID == b.ID && a.Buyer == b.Buyer && a.Seller == b.Seller &&
		a.Cash == b.Cash && a.Price == b.Price && a.Asset == b.Asset && a.Qty == b.Qty
}

// of answers the trade of id that is matched: of all pairs the one whose earlier
// confirmation was the first.
func (p *plain) of(id int) (trade.Trade, bool) {
	earliest, found := len(p.all), false
	for late, s := range p.all {
		if s.t.ID != id {
			continue
		}
		for early := range late {
			if early < earliest && alike(p.all[early].t, s.t) {
				earliest, found = early, true
			}
		}
	}
	if !found {
		return trade.Trade{}, false
	}
	return p.all[earliest].t, true
}

// told answers what is matched and what is open.
func (p *plain) told() (matched []trade.Trade, open []int) {
	var ids []int
	for _, s := range p.all {
		ids = append(ids, s.t.ID)
	}
	slices.Sort(ids)
	for _, id := range slices.Compact(ids) {
		if t, ok := p.of(id); ok {
			matched = append(matched, t)
		} else {
			open = append(open, id)
		}
	}
	return matched, open
}

// both is a desk and a plain one, of which the same is asked.
type both struct {
	t *testing.T
	d *trade.Desk
	p *plain
}

func desk(t *testing.T, parties, cash, assets int) both {
	t.Helper()
	d, e := trade.New(parties, cash, assets)
	if e != api.OK || d == nil {
		t.Fatalf("P18.1: New(%d, %d, %d): %d", parties, cash, assets, e)
	}
	x := both{t, d, &plain{parties: parties, cash: cash, assets: assets}}
	x.holds()
	return x
}

// wide is a desk with as many of all as may be.
func wide(t *testing.T) both {
	t.Helper()
	return desk(t, 16, 4, 4)
}

// put puts; what is answered must be the plain one's answer.
func (x both) put(who int, t trade.Trade) api.Errno {
	x.t.Helper()
	want := x.p.put(who, t)
	if e := x.d.Put(who, t); e != want {
		x.t.Fatalf("P18.1: Put(%d, %+v) behind %d: %d, not %d", who, t, len(x.p.all), e, want)
	}
	if n := x.d.Len(); n != len(x.p.all) {
		x.t.Fatalf("P18.2: Len %d, not %d", n, len(x.p.all))
	}
	return want
}

// say puts, and holds what is told behind it.
func (x both) say(who int, t trade.Trade) api.Errno {
	x.t.Helper()
	e := x.put(who, t)
	x.holds()
	return e
}

// goes puts what must go in.
func (x both) goes(who int, t trade.Trade) {
	x.t.Helper()
	if e := x.say(who, t); e != api.OK {
		x.t.Fatalf("P18.1: Put(%d, %+v): %d", who, t, e)
	}
}

// holds holds all that may be asked of the desk, twice, in both orders.
func (x both) holds() {
	x.t.Helper()
	matched, open := x.p.told()
	x.tells(matched, open)
	for range 2 {
		if o := x.d.Open(); !slices.Equal(o, open) {
			x.t.Fatalf("P18.2: Open %s, not %s", show(o), show(open))
		}
		if l := x.d.Matched(); !slices.Equal(l, matched) {
			x.t.Fatalf("P18.2: Matched %s, not %s", show(l), show(matched))
		}
	}
	x.confirmed()
}

// tells holds the desk against what a test says in so many words.
func (x both) tells(matched []trade.Trade, open []int) {
	x.t.Helper()
	l, o, n := x.d.Matched(), x.d.Open(), x.d.Len()
	if !slices.Equal(l, matched) || !slices.Equal(o, open) || n != len(x.p.all) {
		x.t.Fatalf("P18.2: %s, %s, %d, not %s, %s, %d", show(l), show(o), n, show(matched), show(open), len(x.p.all))
	}
}

// show answers a list as a text, of a long one the beginning.
func show(l any) string {
	s := fmt.Sprintf("%+v", l)
	if len(s) > 1000 {
		return s[:1000] + " .."
	}
	return s
}

// confirmed: each trade that is matched was confirmed by its buyer and by its seller,
// and each ID that was confirmed is matched or open, and not both.
func (x both) confirmed() {
	x.t.Helper()
	times := map[int]int{}
	for _, t := range x.d.Matched() {
		times[t.ID]++
		for _, who := range []int{t.Buyer, t.Seller} {
			if !slices.Contains(x.p.all, said{who, t}) {
				x.t.Fatalf("P18.4: %+v is matched, and %d did not confirm it", t, who)
			}
		}
	}
	for _, id := range x.d.Open() {
		times[id]++
	}
	for _, s := range x.p.all {
		if times[s.t.ID] != 1 {
			x.t.Fatalf("P18.2: %d is matched or open %d times", s.t.ID, times[s.t.ID])
		}
	}
}

// deal answers a trade that is right on a wide desk, and has a number of its own in
// each field.
func deal(id int) trade.Trade {
	return trade.Trade{ID: id, Buyer: 4, Seller: 9, Cash: 2, Price: 1000, Asset: 3, Qty: 70}
}

// between answers a trade of id between two, at a price.
func between(id, buyer, seller, price int) trade.Trade {
	return trade.Trade{ID: id, Buyer: buyer, Seller: seller, Cash: 1, Price: price, Asset: 2, Qty: 5}
}

// fields answers each field of t by its name.
func fields(t *trade.Trade) map[string]*int {
	return map[string]*int{
		"ID": &t.ID, "Buyer": &t.Buyer, "Seller": &t.Seller, "Cash": &t.Cash,
		"Price": &t.Price, "Asset": &t.Asset, "Qty": &t.Qty,
	}
}

// far are numbers that are out of all bounds but those of a count that a call is told.
func far() []int {
	return []int{
		-1, -2, -16, -65535, -65536, -1 << 32, -1<<32 + 1, -greatest, -greatest - 1,
		math.MinInt, math.MinInt + 1, math.MinInt + 7,
		greatest + 1, greatest + 2, math.MaxInt, math.MaxInt - 1,
	}
}
