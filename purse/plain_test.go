package purse

import (
	"math"
	"math/big"
	"slices"
	"testing"

	"counterfoil/api"
)

// most is the greatest amount, by its value.
const most = 4611686018427387904

// counts are numbers on either side of each bound of parties and of assets.
func counts() []int {
	return []int{
		math.MinInt, math.MinInt + 1, -1 << 32, -256, -17, -16, -5, -4, -3, -2, -1, 0, 1, 2, 3, 4, 5, 6,
		7, 15, 16, 17, 18, 31, 32, 63, 64, 255, 256, 1 << 16, 1 << 31, 1 << 32, 1<<32 + 1, math.MaxInt - 1, math.MaxInt,
	}
}

// amounts are numbers on either side of each bound of amounts.
func amounts() []int {
	return []int{
		math.MinInt, math.MinInt + 1, -most - 1, -most, -most + 1, -2, -1, 0, 1, 2, 3,
		most/2 - 1, most / 2, most/2 + 1, most - 2, most - 1, most, most + 1, most + 2, math.MaxInt - 1, math.MaxInt,
	}
}

// isAmount tells if n, which is without bounds, is an amount.
func isAmount(n *big.Int) bool {
	return n.Sign() >= 0 && n.Cmp(new(big.Int).Lsh(big.NewInt(1), 62)) <= 0
}

func sum(l ...int) *big.Int {
	s := new(big.Int)
	for _, n := range l {
		s.Add(s, big.NewInt(int64(n)))
	}
	return s
}

// plain is a purse in the chapter's words: of each party what it has of each
// asset. What changes it answers another one.
type plain [][]int

// begun answers what New must.
func begun(start [][]int) (plain, api.Errno) {
	if len(start) < 2 || len(start) > 16 {
		return nil, api.ErrRange
	}
	var p plain
	for _, row := range start {
		if len(row) < 1 || len(row) > 4 || len(row) != len(start[0]) {
			return nil, api.ErrRange
		}
		for _, n := range row {
			if !isAmount(sum(n)) {
				return nil, api.ErrRange
			}
		}
		p = append(p, slices.Clone(row))
	}
	for asset := range p[0] {
		if !isAmount(p.total(asset)) {
			return nil, api.ErrRange
		}
	}
	return p, api.OK
}

func (p plain) total(asset int) *big.Int {
	var l []int
	for _, row := range p {
		l = append(l, row[asset])
	}
	return sum(l...)
}

func (p plain) party(i int) bool { return i >= 0 && i < len(p) }

func (p plain) asset(i int) bool { return i >= 0 && i < len(p[0]) }

// with answers p where party has n more of asset.
func (p plain) with(party, asset, n int) plain {
	var q plain
	for _, row := range p {
		q = append(q, slices.Clone(row))
	}
	q[party][asset] += n
	return q
}

// call is a call of Give, Take or Move: of the others than Move to is nothing.
type call struct {
	kind                int
	party, to, asset, n int
}

const (
	give = iota
	take
	move
)

func (c call) name() string { return []string{"Give", "Take", "Move"}[c.kind] }

// after answers what c must answer, and what there must be behind it.
func (p plain) after(c call) (plain, api.Errno) {
	switch {
	case !p.party(c.party) || c.kind == move && !p.party(c.to) || !p.asset(c.asset) || !isAmount(sum(c.n)):
		return p, api.ErrRange
	case c.kind == move && c.party == c.to:
		return p, api.ErrParty
	case c.kind != give && p[c.party][c.asset] < c.n:
		return p, api.ErrFunds
	case c.kind == give && !isAmount(new(big.Int).Add(p.total(c.asset), sum(c.n))):
		return p, api.ErrRange
	case c.kind == give:
		return p.with(c.party, c.asset, c.n), api.OK
	}
	p = p.with(c.party, c.asset, -c.n)
	if c.kind == move {
		p = p.with(c.to, c.asset, c.n)
	}
	return p, api.OK
}

// do makes the call.
func (c call) do(p *Purse) api.Errno {
	switch c.kind {
	case give:
		return p.Give(c.party, c.asset, c.n)
	case take:
		return p.Take(c.party, c.asset, c.n)
	}
	return p.Move(c.party, c.to, c.asset, c.n)
}

// all is what p tells of what there is, by parties first.
func all(p *Purse) [][]int {
	var l [][]int
	for party := range p.Parties() {
		var row []int
		for asset := range p.Assets() {
			row = append(row, p.Has(party, asset))
		}
		l = append(l, row)
	}
	return l
}

// holds asks p for all that it tells, of what there is and of what there is not.
func holds(t *testing.T, p *Purse, want plain, why string) {
	t.Helper()
	if p.Parties() != len(want) || p.Assets() != len(want[0]) || !slices.EqualFunc(all(p), want, slices.Equal) {
		t.Fatalf("%s: %d parties, %d assets: %v, not %v", why, p.Parties(), p.Assets(), all(p), want)
	}
	for asset := range want[0] {
		if got := p.Total(asset); want.total(asset).Cmp(sum(got)) != 0 {
			t.Fatalf("%s: Total(%d): %d, not %v", why, asset, got, want.total(asset))
		}
	}
	for _, x := range counts() {
		if !want.asset(x) && p.Total(x) != 0 {
			t.Fatalf("%s: Total(%d), which is none: %d", why, x, p.Total(x))
		}
		for _, y := range counts() {
			if !(want.party(x) && want.asset(y)) && p.Has(x, y) != 0 {
				t.Fatalf("%s: Has(%d, %d), which is none: %d", why, x, y, p.Has(x, y))
			}
		}
	}
}

// made answers the Purse of a start that is one.
func made(t *testing.T, start ...[]int) *Purse {
	t.Helper()
	p, e := New(start)
	if p == nil || e != api.OK {
		t.Fatalf("P9.1: New(%v): %d", start, e)
	}
	return p
}

// begins asks New for start, and holds the answer against plain's.
func begins(t *testing.T, start [][]int, why string) {
	t.Helper()
	want, we := begun(start)
	p, e := New(start)
	if e != we || (p == nil) != (want == nil) {
		t.Fatalf("%s: New(%v): %d, a Purse: %t; want %d", why, start, e, p != nil, we)
	}
	if p != nil {
		holds(t, p, want, why)
	}
}

// grid is a start with balances that are all unlike.
func grid(parties, assets int) [][]int {
	l := make([][]int, parties)
	for party := range l {
		for asset := range assets {
			l[party] = append(l[party], 1000*(party+1)+asset+1)
		}
	}
	return l
}
