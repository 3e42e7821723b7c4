package line_test

import (
	"bytes"
	"fmt"
	"math"
	"math/rand"
	"testing"

	"counterfoil/api"
	"counterfoil/line"
	"counterfoil/seal"
)

// topmost is the greatest number of a note.
const topmost = 4294967295

// plain is a line in the chapter's words: it keeps all that was ever sent and how
// much of it was answered, and tells all else from these.
type plain struct {
	party, which, first int
	sent                []string
	answered            int
}

func newPlain(party, which, seq int) *plain {
	if seq < 0 || seq > topmost {
		seq = 0
	}
	return &plain{party: party, which: which, first: seq}
}

func (p *plain) seq() int { return p.first + len(p.sent) }

func (p *plain) busy() bool { return p.answered != len(p.sent) }

// due is the note that waits.
func (p *plain) due() seal.Note {
	return seal.Note{Party: p.party, Ledger: p.which, Way: 0, Seq: p.seq(), Body: []byte(p.sent[len(p.sent)-1])}
}

func (p *plain) send(body string) (seal.Note, api.Errno) {
	switch {
	case p.busy():
		return seal.Note{}, api.ErrState
	case p.seq()+1 > topmost:
		return seal.Note{}, api.ErrRange
	}
	p.sent = append(p.sent, body)
	return p.due(), api.OK
}

func (p *plain) again() (seal.Note, bool) {
	if !p.busy() {
		return seal.Note{}, false
	}
	return p.due(), true
}

func (p *plain) got(n seal.Note) ([]byte, api.Errno) {
	mine := n.Party == p.party && n.Ledger == p.which && n.Way == 1
	switch {
	case !mine:
		return nil, api.ErrParty
	case !p.busy(), n.Seq != p.seq():
		return nil, api.ErrStale
	}
	p.answered++
	return bytes.Clone(n.Body), api.OK
}

// both is a line and a plain one, of which the same is asked.
type both struct {
	t *testing.T
	l *line.Line
	p *plain
}

func open(t *testing.T, party, which, seq int) both {
	t.Helper()
	x := both{t, line.New(party, which, seq), newPlain(party, which, seq)}
	x.holds()
	return x
}

// holds holds all that may be asked of the line and changes nothing.
func (x both) holds() {
	x.t.Helper()
	if x.l.Seq() != x.p.seq() || x.l.Busy() != x.p.busy() {
		x.t.Fatalf("P16.1: Seq %d, Busy %t, not %d, %t", x.l.Seq(), x.l.Busy(), x.p.seq(), x.p.busy())
	}
	for range 2 {
		n, ok := x.l.Again()
		want, has := x.p.again()
		if ok != has || !same(n, want) {
			x.t.Fatalf("P16.1: Again: %s, %t, not %s, %t", show(n), ok, show(want), has)
		}
	}
}

// send sends body; what is answered must be the plain one's answer.
func (x both) send(body []byte) (seal.Note, api.Errno) {
	x.t.Helper()
	want, f := x.p.send(string(body))
	n, e := x.l.Send(body)
	if e != f || !same(n, want) {
		x.t.Fatalf("P16.1: Send of %d bytes: %s, %d, not %s, %d", len(body), show(n), e, show(want), f)
	}
	x.holds()
	return n, e
}

// got tells n to the line; what is answered must be the plain one's answer.
func (x both) got(n seal.Note) ([]byte, api.Errno) {
	x.t.Helper()
	want, f := x.p.got(n)
	b, e := x.l.Got(n)
	if e != f || !bytes.Equal(b, want) {
		x.t.Fatalf("P16.1: Got of %s: %x, %d, not %x, %d", show(n), b, e, want, f)
	}
	x.holds()
	return b, e
}

// told is the note that tells body to the last one that was sent.
func (x both) told(body []byte) seal.Note {
	return seal.Note{Party: x.p.party, Ledger: x.p.which, Way: 1, Seq: x.p.seq(), Body: body}
}

// ends is a talk of so many notes, each of which is answered.
func (x both) ends(count int) {
	x.t.Helper()
	for k := range count {
		x.send(some(k, 1))
		if _, e := x.got(x.told(some(k, 2))); e != api.OK {
			x.t.Fatalf("P16.1: Got of what is due: %d", e)
		}
	}
}

// same tells if two notes are the same; nil is an empty Body.
func same(a, b seal.Note) bool {
	return a.Party == b.Party && a.Ledger == b.Ledger && a.Way == b.Way && a.Seq == b.Seq && bytes.Equal(a.Body, b.Body)
}

func show(n seal.Note) string {
	return fmt.Sprintf("{party %d, ledger %d, way %d, number %d, %d bytes}", n.Party, n.Ledger, n.Way, n.Seq, len(n.Body))
}

// some answers n bytes of which hardly one is like the next: other ones of each
// which.
func some(n, which int) []byte {
	b := make([]byte, n)
	rand.New(rand.NewSource(int64(n)*1000 + int64(which))).Read(b)
	return b
}

// spoil turns b, and its spare room.
func spoil(b []byte) {
	b = b[:cap(b)]
	for i := range b {
		b[i] ^= 0xff
	}
}

// roomy is b with other bytes behind its length: all of it is answered, too.
func roomy(b []byte) (in, all []byte) {
	all = append(bytes.Clone(b), some(100, 10)...)
	return all[:len(b)], all
}

// ids are parties and ledgers, such as are none, too.
func ids() []int {
	return []int{0, 1, 2, 3, 15, 16, 255, 256, 1 << 32, -1, -16, math.MaxInt, math.MinInt}
}

// sizes are sizes of Bodies, such as no note that is sealed has, too.
func sizes() []int {
	return []int{0, 1, 2, 31, 32, 33, 100, 4096, api.MaxRecord - 1, api.MaxRecord, api.MaxRecord + 1, 1 << 17}
}
