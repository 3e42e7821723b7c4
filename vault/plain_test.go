package vault

import (
	"bytes"
	"encoding/binary"
	"slices"

	"counterfoil/api"
	"counterfoil/ledger"
	"counterfoil/req"
	"counterfoil/sha"
)

// final is the greatest tick, topmost the greatest number of a batch, by their
// values.
const (
	final   = 1099511627776
	topmost = 4294967295
)

var table = sha.NewTable()

// number is b, and n in so many bytes behind it, by the library.
func number(b []byte, n, size int) []byte {
	return append(b, binary.BigEndian.AppendUint64(nil, uint64(n))[8-size:]...)
}

// laidEvent is b, and v behind it.
func laidEvent(b []byte, v req.Event) []byte {
	b = number(b, v.Kind, 1)
	if v.Kind < 3 {
		b = number(number(number(number(b, v.From, 1), v.To, 1), v.Asset, 1), v.Amount, 8)
	}
	switch v.Kind {
	case 2:
		b = number(append(number(b, v.ID, 2), v.Hash...), v.Deadline, 8)
	case 3:
		b = append(number(b, v.ID, 2), v.Secret...)
	case 4:
		b = number(b, v.ID, 2)
	}
	return b
}

// laidReplies is b, and how many there are, and each, behind it.
func laidReplies(b []byte, l []req.Reply) []byte {
	b = number(b, len(l), 1)
	for _, r := range l {
		b = number(number(b, int(r.Code), 1), r.ID, 2)
	}
	return b
}

// laidAnswer is a in the bytes of chapter 11.
func laidAnswer(a req.Answer) []byte {
	b := laidReplies(number(number(nil, a.Clock, 8), a.Seen, 2), a.Replies)
	b = number(b, len(a.Events), 2)
	for _, v := range a.Events {
		b = laidEvent(b, v)
	}
	return b
}

// laidRecord is what a journal has of one batch.
func laidRecord(party, seq, clock int, batch []byte) []byte {
	return append(number(number(number(nil, party, 1), seq, 4), clock, 8), batch...)
}

// store is what a journal tells.
type store struct {
	gen      int
	pictured bool
	picture  []byte
	records  [][]byte
}

// sectors is how many sectors n bytes need, calls how many Writes and Syncs lay
// them.
func sectors(n int) int { return (24 + n + 62) / 63 }

func calls(n int) int {
	if sectors(n) == 1 {
		return 2
	}
	return sectors(n) + 2
}

// used is how many sectors it has.
func (s store) used() int {
	n := 0
	if s.pictured {
		n = sectors(len(s.picture))
	}
	for _, b := range s.records {
		n += sectors(len(b))
	}
	return n
}

// with is it with one record more.
func (s store) with(b []byte) store {
	s.records = append(slices.Clone(s.records), b)
	return s
}

func sameStore(a, b store) bool {
	return a.gen == b.gen && a.pictured == b.pictured && bytes.Equal(a.picture, b.picture) && slices.EqualFunc(a.records, b.records, bytes.Equal)
}

// plainLast is what a party was answered last.
type plainLast struct {
	seq, seen int
	answer    req.Answer
}

// plain is a vault in the chapter's words, over a disk of which it knows what its
// journal tells, and how many calls its fuse lets through.
type plain struct {
	c      ledger.Conf
	l      *ledger.Ledger
	lasts  []plainLast
	served int
	down   bool

	half  int
	store store
	fuse  int
	dark  bool   // the disk is down
	under *store // what was laid but for its last Sync
}

// opened is the plain one that opens what is told, in halves of so many sectors:
// false is ErrForm.
func opened(c ledger.Conf, s store, half int) (*plain, bool) {
	l, _ := ledger.New(table, c)
	p := &plain{c: c, l: l, lasts: make([]plainLast, len(c.Start)), half: half, store: s, fuse: -1}
	if s.pictured && !p.unfold(s.picture) {
		return nil, false
	}
	for _, b := range s.records {
		r := source{b: b}
		party, seq, clock := r.number(1), r.number(4), r.number(8)
		batch, e := req.DecodeBatch(r.b)
		if r.short || e != api.OK || party >= len(p.lasts) || seq != p.lasts[party].seq+1 || clock < p.l.Clock() || clock > final {
			return nil, false
		}
		p.do(party, seq, clock, batch)
	}
	return p, true
}

// source is bytes of which those ahead were read: short, if there were too few, or
// a number is above all amounts.
type source struct {
	b     []byte
	short bool
}

func (s *source) next(n int) []byte {
	if len(s.b) < n {
		s.short, s.b = true, nil
		return nil
	}
	b := s.b[:n]
	s.b = s.b[n:]
	return b
}

func (s *source) number(size int) int {
	b := s.next(size)
	if s.short {
		return 0
	}
	n := binary.BigEndian.Uint64(append(make([]byte, 8-size), b...))
	s.short = n > 1<<62
	return int(n)
}

// unfold takes what a picture tells: false, if it is none.
func (p *plain) unfold(b []byte) bool {
	s := source{b: b}
	l, e := ledger.Load(table, p.c, s.next(s.number(4)))
	if s.short || e != api.OK {
		return false
	}
	p.l = l
	for i := range p.lasts {
		x := plainLast{seq: s.number(4)}
		if x.seq > 0 {
			x.answer.Clock, x.answer.Seen, x.seen = s.number(8), s.number(2), s.number(2)
			n := s.number(1)
			if n > 64 || x.answer.Clock > l.Clock() || x.answer.Seen > len(l.Events()) {
				return false
			}
			for range n {
				x.answer.Replies = append(x.answer.Replies, req.Reply{Code: api.Errno(s.number(1)), ID: s.number(2)})
			}
			for k, v := range l.Events() {
				if k >= x.seen && k < x.answer.Seen {
					x.answer.Events = append(x.answer.Events, v)
				}
			}
		}
		p.lasts[i] = x
	}
	return !s.short && len(s.b) == 0
}

// fold is the picture.
func (p *plain) fold() []byte {
	saved, _ := p.l.Save()
	b := append(number(nil, len(saved), 4), saved...)
	for _, x := range p.lasts {
		b = number(b, x.seq, 4)
		if x.seq > 0 {
			b = laidReplies(number(number(number(b, x.answer.Clock, 8), x.answer.Seen, 2), x.seen, 2), x.answer.Replies)
		}
	}
	return b
}

func (p *plain) do(party, seq, clock int, b req.Batch) {
	p.lasts[party] = plainLast{seq, b.Seen, p.l.Apply(party, clock, b)}
}

// last is Last.
func (p *plain) last(party int) int {
	if party < 0 || party >= len(p.lasts) {
		return 0
	}
	return p.lasts[party].seq
}

// at is the ledger's clock, as an Apply at clock would set it.
func (p *plain) at(clock int) int {
	if clock > p.l.Clock() && clock <= final {
		return clock
	}
	return p.l.Clock()
}

// handle is Handle.
func (p *plain) handle(party, seq, clock int, batch []byte) ([]byte, api.Errno) {
	if p.down {
		return nil, 13
	}
	if party < 0 || party >= len(p.lasts) {
		return nil, 14
	}
	if x := p.lasts[party]; seq == x.seq && seq > 0 {
		return laidAnswer(x.answer), 0
	}
	if seq != p.last(party)+1 || seq > topmost {
		return nil, 5
	}
	b, e := req.DecodeBatch(batch)
	if e != api.OK {
		return nil, 2
	}
	at := p.at(clock)
	if e := p.lay(laidRecord(party, seq, at, batch)); e != api.OK {
		p.down = e == 13
		return nil, e
	}
	p.do(party, seq, at, b)
	p.served++
	return laidAnswer(p.lasts[party].answer), 0
}

// full tells if there is no room left for a record.
func (p *plain) full(record []byte) bool {
	return p.store.used()+sectors(len(record)) > p.half
}

// lay makes a record last, behind a new picture, if it must.
func (p *plain) lay(record []byte) api.Errno {
	if p.dark {
		return 13
	}
	if p.full(record) {
		if p.store.gen == topmost {
			return 12
		}
		b := p.fold()
		if e := p.burn(len(b), store{gen: p.store.gen + 1, pictured: true, picture: b}); e != api.OK {
			return e
		}
	}
	return p.burn(len(record), p.store.with(record))
}

// burn lays n bytes, behind which the journal tells next.
func (p *plain) burn(n int, next store) api.Errno {
	if p.fuse >= 0 && p.fuse < calls(n) {
		if p.fuse == calls(n)-1 {
			p.under = &next
		}
		p.dark = true
		return 13
	}
	if p.fuse >= 0 {
		p.fuse -= calls(n)
	}
	p.store = next
	return 0
}

// crash is the disk's Crash: of what is under way, one sector is pending.
func (p *plain) crash(keep []bool) {
	if p.under != nil && len(keep) > 0 && keep[0] {
		p.store = *p.under
	}
	p.under, p.dark, p.fuse = nil, false, -1
}
