package ledger

import (
	"crypto/sha256"
	"encoding/binary"
	"slices"
	"strings"

	"counterfoil/api"
	"counterfoil/escrow"
	"counterfoil/req"
	"counterfoil/sha"
)

// most is the greatest amount, last the greatest tick, by their values.
const (
	most = 4611686018427387904
	last = 1099511627776
)

var table = sha.NewTable()

// secret is a text of 32 bytes c, and hashed the library's SHA-256 of a text.
func secret(c string) string { return strings.Repeat(c, 32) }

func hashed(s string) string {
	sum := sha256.Sum256([]byte(s))
	return string(sum[:])
}

// between tells if n is least to greatest.
func between(n, least, greatest int) bool { return n >= least && n <= greatest }

// give, lock, claim and refund are whole requests.
func give(to, asset, amount int) req.Req {
	return req.Req{Kind: 1, To: to, Asset: asset, Amount: amount}
}

func lock(to, asset, amount int, c string, deadline int) req.Req {
	return req.Req{Kind: 2, To: to, Asset: asset, Amount: amount, Hash: hashed(secret(c)), Deadline: deadline}
}

func claim(id int, c string) req.Req { return req.Req{Kind: 3, ID: id, Secret: secret(c)} }

func refund(id int) req.Req { return req.Req{Kind: 4, ID: id} }

// plain is a ledger in the chapter's words: of each party what it has free of each
// asset, the escrows, and what was done, by whom and when.
type plain struct {
	free    [][]int
	most    int
	clock   int
	escrows []escrow.Escrow
	events  []req.Event
	parties []int // who asked for each event
	clocks  []int // the clock at each event
}

// begun is a plain one at its beginning.
func begun(c Conf) *plain {
	p := &plain{most: c.Events}
	for _, row := range c.Start {
		p.free = append(p.free, slices.Clone(row))
	}
	return p
}

func (p *plain) party(i int) bool { return between(i, 0, len(p.free)-1) }

func (p *plain) asset(i int) bool { return between(i, 0, len(p.free[0])-1) }

// has is what party has free of asset, and 0 of what there is not.
func (p *plain) has(party, asset int) int {
	if !p.party(party) || !p.asset(asset) {
		return 0
	}
	return p.free[party][asset]
}

// get is escrow id, or one that is nobody's.
func (p *plain) get(id int) escrow.Escrow {
	if !between(id, 0, len(p.escrows)-1) {
		return escrow.Escrow{From: -9, To: -9}
	}
	return p.escrows[id]
}

// total is what all have free of asset, and what is in the Open escrows.
func (p *plain) total(asset int) int {
	n := 0
	for party := range p.free {
		n += p.has(party, asset)
	}
	for _, x := range p.escrows {
		if x.State == 0 && x.Asset == asset {
			n += x.Amount
		}
	}
	return n
}

func (p *plain) open() int {
	n := 0
	for _, x := range p.escrows {
		if x.State == 0 {
			n++
		}
	}
	return n
}

// isWhole tells if q has what its kind has, and nothing else.
func isWhole(q req.Req) bool {
	has := map[int]string{1: "To Asset Amount", 2: "To Asset Amount Hash Deadline", 3: "ID Secret", 4: "ID"}[q.Kind]
	number := func(name string, n, greatest int) bool {
		if strings.Contains(has, name) {
			return between(n, 0, greatest)
		}
		return n == 0
	}
	text := func(name, s string) bool {
		if strings.Contains(has, name) {
			return len(s) == 32
		}
		return s == ""
	}
	return has != "" && number("To", q.To, 255) && number("Asset", q.Asset, 255) && number("Amount", q.Amount, most) &&
		number("ID", q.ID, 65535) && number("Deadline", q.Deadline, last) && text("Hash", q.Hash) && text("Secret", q.Secret)
}

// fault is an error, and whether it holds.
type fault struct {
	e     api.Errno
	holds bool
}

// faults are the errors of q, asked by party, in the order of the chapters.
func (p *plain) faults(party int, q req.Req) []fault {
	none := !between(q.ID, 0, len(p.escrows)-1)
	x := p.get(q.ID)
	first := []fault{{1, !isWhole(q)}, {1, !p.party(party)}}
	taken := len(p.events) + p.open()
	unfit := !p.party(q.To) || !p.asset(q.Asset) || !between(q.Amount, 1, most)
	funds := p.has(party, q.Asset) < q.Amount
	switch q.Kind {
	case 1:
		return append(first, fault{12, taken+1 > p.most}, fault{1, unfit}, fault{14, party == q.To}, fault{7, funds})
	case 2:
		return append(first, fault{12, taken+2 > p.most}, fault{1, unfit}, fault{14, party == q.To}, fault{11, q.Deadline <= p.clock}, fault{7, funds})
	case 3:
		return append(first, fault{8, none}, fault{14, party != x.To}, fault{9, x.State != 0}, fault{11, p.clock >= x.Deadline}, fault{10, hashed(q.Secret) != x.Hash})
	}
	return append(first, fault{8, none}, fault{14, party != x.From}, fault{9, x.State != 0}, fault{11, p.clock < x.Deadline})
}

// ask does q, or tells why not.
func (p *plain) ask(party int, q req.Req) req.Reply {
	for _, f := range p.faults(party, q) {
		if f.holds {
			return req.Reply{Code: f.e}
		}
	}
	x := p.get(q.ID)
	id := len(p.escrows)
	reply := req.Reply{}
	var v req.Event
	switch q.Kind {
	case 1:
		p.free[party][q.Asset] -= q.Amount
		p.free[q.To][q.Asset] += q.Amount
		v = req.Event{Kind: 1, From: party, To: q.To, Asset: q.Asset, Amount: q.Amount}
	case 2:
		p.free[party][q.Asset] -= q.Amount
		p.escrows = append(p.escrows, escrow.Escrow{From: party, To: q.To, Asset: q.Asset, Amount: q.Amount, Deadline: q.Deadline, Hash: q.Hash})
		v = req.Event{Kind: 2, From: party, To: q.To, Asset: q.Asset, Amount: q.Amount, ID: id, Hash: q.Hash, Deadline: q.Deadline}
		reply.ID = id
	case 3:
		p.free[x.To][x.Asset] += x.Amount
		p.escrows[q.ID].State, p.escrows[q.ID].Secret = 1, q.Secret
		v = req.Event{Kind: 3, ID: q.ID, Secret: q.Secret}
	case 4:
		p.free[x.From][x.Asset] += x.Amount
		p.escrows[q.ID].State = 2
		v = req.Event{Kind: 4, ID: q.ID}
	}
	p.events = append(p.events, v)
	p.parties = append(p.parties, party)
	p.clocks = append(p.clocks, p.clock)
	return reply
}

// apply is Apply.
func (p *plain) apply(party, clock int, b req.Batch) req.Answer {
	if between(clock, p.clock, last) {
		p.clock = clock
	}
	var a req.Answer
	for i, q := range b.Reqs {
		if i < 64 {
			a.Replies = append(a.Replies, p.ask(party, q))
		}
	}
	a.Clock, a.Seen = p.clock, len(p.events)
	if between(b.Seen, 0, a.Seen) {
		a.Events = slices.Clone(p.events[b.Seen:])
	}
	return a
}

// number is n in so many bytes by the library.
func number(b []byte, n, size int) []byte {
	return append(b, binary.BigEndian.AppendUint64(nil, uint64(n))[8-size:]...)
}

// laid is b, and v behind it.
func laid(b []byte, v req.Event) []byte {
	b = number(b, v.Kind, 1)
	if v.Kind < 3 {
		b = number(number(number(number(b, v.From, 1), v.To, 1), v.Asset, 1), v.Amount, 8)
	}
	switch v.Kind {
	case 2:
		b = number(append(number(b, v.ID, 2), v.Hash...), v.Deadline, 8)
	case 3:
		b = append(number(b, v.ID, 2), v.Secret...)
	case 4:
		b = number(b, v.ID, 2)
	}
	return b
}

// save is Save.
func (p *plain) save() []byte {
	b := number(number(nil, p.clock, 8), len(p.events), 2)
	for i, v := range p.events {
		b = laid(number(number(b, p.parties[i], 1), p.clocks[i], 8), v)
	}
	return b
}

// source is bytes of which those ahead were read: short, if there were too few, or
// a number is above all amounts.
type source struct {
	b     []byte
	short bool
}

func (s *source) next(n int) []byte {
	if len(s.b) < n {
		s.short, s.b = true, nil
		return make([]byte, n)
	}
	b := s.b[:n]
	s.b = s.b[n:]
	return b
}

func (s *source) number(size int) int {
	n := binary.BigEndian.Uint64(append(make([]byte, 8-size), s.next(size)...))
	s.short = s.short || n > most
	return int(n)
}

func (s *source) event() req.Event {
	v := req.Event{Kind: s.number(1)}
	if v.Kind == 1 || v.Kind == 2 {
		v.From, v.To, v.Asset, v.Amount = s.number(1), s.number(1), s.number(1), s.number(8)
	}
	switch v.Kind {
	case 2:
		v.ID, v.Hash, v.Deadline = s.number(2), string(s.next(32)), s.number(8)
	case 3:
		v.ID, v.Secret = s.number(2), string(s.next(32))
	case 4:
		v.ID = s.number(2)
	}
	return v
}

// load is Load, of a c that Check does not refuse: false is ErrForm.
func load(c Conf, b []byte) (*plain, bool) {
	p, s := begun(c), source{b: b}
	clock, n := s.number(8), s.number(2)
	for range n {
		party, at, v := s.number(1), s.number(8), s.event()
		if s.short || !between(at, p.clock, last) {
			return nil, false
		}
		q := req.Req{Kind: v.Kind, To: v.To, Asset: v.Asset, Amount: v.Amount, ID: v.ID, Deadline: v.Deadline, Hash: v.Hash, Secret: v.Secret}
		if v.Kind == 2 {
			q.ID = 0
		}
		a := p.apply(party, at, req.Batch{Seen: len(p.events), Reqs: []req.Req{q}})
		if a.Replies[0].Code != 0 || a.Events[0] != v {
			return nil, false
		}
	}
	if s.short || len(s.b) > 0 || !between(clock, p.clock, last) {
		return nil, false
	}
	p.clock = clock
	return p, true
}
