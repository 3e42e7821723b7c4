package escrow

import (
	"crypto/sha256"
	"fmt"
	"math"
	"math/big"
	"slices"
	"strings"

	"counterfoil/api"
	"counterfoil/sha"
)

// most is the greatest amount, last the greatest tick, by their values.
const (
	most = 4611686018427387904
	last = 1099511627776
)

var table = sha.NewTable()

// text is n bytes c.
func text(c string, n int) string { return strings.Repeat(c, n) }

// hashed is the library's SHA-256 of s.
func hashed(s string) string {
	sum := sha256.Sum256([]byte(s))
	return string(sum[:])
}

// between tells if n is least to greatest.
func between(n, least, greatest int) bool { return n >= least && n <= greatest }

// plain is a book in the chapter's words: of each party what it has free of each
// asset, and the escrows. What changes it answers another one.
type plain struct {
	free    [][]int
	escrows []Escrow
}

func (p plain) party(i int) bool { return between(i, 0, len(p.free)-1) }

func (p plain) asset(i int) bool { return between(i, 0, len(p.free[0])-1) }

// has is what party has free of asset, and 0 of what there is not.
func (p plain) has(party, asset int) int {
	if !p.party(party) || !p.asset(asset) {
		return 0
	}
	return p.free[party][asset]
}

// get is escrow id, or one that is nobody's.
func (p plain) get(id int) Escrow {
	if !between(id, 0, len(p.escrows)-1) {
		return Escrow{From: math.MinInt, To: math.MinInt}
	}
	return p.escrows[id]
}

// pursed is what all have free of asset, without bounds.
func (p plain) pursed(asset int) *big.Int {
	s := new(big.Int)
	for party := range p.free {
		s.Add(s, big.NewInt(int64(p.has(party, asset))))
	}
	return s
}

// total is that and what is in the Open escrows, without bounds.
func (p plain) total(asset int) *big.Int {
	s := p.pursed(asset)
	for _, x := range p.escrows {
		if x.State == 0 && x.Asset == asset {
			s.Add(s, big.NewInt(int64(x.Amount)))
		}
	}
	return s
}

// told is n, or the greatest number that can be told, if n is above it.
func told(n *big.Int) int {
	if !n.IsInt64() {
		return math.MaxInt
	}
	return int(n.Int64())
}

func (p plain) open() int {
	n := 0
	for _, x := range p.escrows {
		if x.State == 0 {
			n++
		}
	}
	return n
}

// copied answers a plain one of its own.
func (p plain) copied() plain {
	var q plain
	for _, row := range p.free {
		q.free = append(q.free, slices.Clone(row))
	}
	q.escrows = slices.Clone(p.escrows)
	return q
}

// call is a call of the Book, or of its Purse beside it: one of a Lock has no id;
// one of Claim and Refund has from, which is who, and no to, asset and amount.
type call struct {
	kind                    int
	from, to, asset, amount int
	id                      int
	text                    string // the hash or the secret
	deadline, clock         int
}

const (
	lock = iota
	claim
	refund
	give
	take
)

func (c call) String() string {
	switch c.kind {
	case lock:
		return fmt.Sprintf("Lock(%d, %d, %d, %d, %q, %d, %d)", c.from, c.to, c.asset, c.amount, c.text, c.deadline, c.clock)
	case claim:
		return fmt.Sprintf("Claim(%d, %d, %q, %d)", c.from, c.id, c.text, c.clock)
	case refund:
		return fmt.Sprintf("Refund(%d, %d, %d)", c.from, c.id, c.clock)
	}
	return fmt.Sprintf("%s(%d, %d, %d)", []string{"Give", "Take"}[c.kind-give], c.from, c.asset, c.amount)
}

// do makes the call.
func (c call) do(b *Book) (int, api.Errno) {
	switch c.kind {
	case lock:
		return b.Lock(c.from, c.to, c.asset, c.amount, c.text, c.deadline, c.clock)
	case claim:
		return 0, b.Claim(c.from, c.id, c.text, c.clock)
	case refund:
		return 0, b.Refund(c.from, c.id, c.clock)
	case give:
		return 0, b.Purse().Give(c.from, c.asset, c.amount)
	}
	return 0, b.Purse().Take(c.from, c.asset, c.amount)
}

// fault is an error, and whether it holds.
type fault struct {
	e     api.Errno
	holds bool
}

// faults are the errors of c in the order of the chapter.
func (p plain) faults(c call) []fault {
	x := p.get(c.id)
	none := !between(c.id, 0, len(p.escrows)-1)
	ticks := between(c.clock, 0, last)
	switch c.kind {
	case lock:
		return []fault{
			{1, !p.party(c.from)}, {1, !p.party(c.to)}, {1, !p.asset(c.asset)}, {1, !between(c.amount, 1, most)},
			{1, !between(c.deadline, 0, last)}, {1, !ticks},
			{2, len(c.text) != 32}, {14, c.from == c.to}, {11, c.deadline <= c.clock}, {7, p.has(c.from, c.asset) < c.amount},
		}
	case claim:
		return []fault{
			{8, none}, {14, c.from != x.To}, {9, x.State != 0}, {11, c.clock >= x.Deadline}, {11, !ticks},
			{2, len(c.text) != 32}, {10, hashed(c.text) != x.Hash}, {1, !p.room(x.Asset, x.Amount)},
		}
	case refund:
		return []fault{
			{8, none}, {14, c.from != x.From}, {9, x.State != 0}, {11, c.clock < x.Deadline}, {11, !ticks},
			{1, !p.room(x.Asset, x.Amount)},
		}
	}
	there := p.party(c.from) && p.asset(c.asset) && between(c.amount, 0, most)
	return []fault{
		{1, !there}, {1, c.kind == give && !p.room(c.asset, c.amount)}, {7, c.kind == take && p.has(c.from, c.asset) < c.amount},
	}
}

// room tells if amount more of asset goes into the purse.
func (p plain) room(asset, amount int) bool {
	s := p.pursed(asset)
	return s.Add(s, big.NewInt(int64(amount))).Cmp(new(big.Int).Lsh(big.NewInt(1), 62)) <= 0
}

// after answers what c must answer, and what there must be behind it.
func (p plain) after(c call) (plain, int, api.Errno) {
	for _, f := range p.faults(c) {
		if f.holds {
			return p, 0, f.e
		}
	}
	q, x := p.copied(), p.get(c.id)
	id := 0
	switch c.kind {
	case lock:
		id = len(p.escrows)
		q.free[c.from][c.asset] -= c.amount
		q.escrows = append(q.escrows, Escrow{c.from, c.to, c.asset, c.amount, c.deadline, 0, c.text, ""})
	case claim:
		q.free[x.To][x.Asset] += x.Amount
		q.escrows[c.id].State, q.escrows[c.id].Secret = 1, c.text
	case refund:
		q.free[x.From][x.Asset] += x.Amount
		q.escrows[c.id].State = 2
	case give:
		q.free[c.from][c.asset] += c.amount
	case take:
		q.free[c.from][c.asset] -= c.amount
	}
	return q, id, api.OK
}
