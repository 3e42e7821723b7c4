package gate_test

import (
	"bytes"
	"crypto/hmac"
	"crypto/sha256"
	"encoding/binary"
	"math/rand"
	"slices"
	"strings"
	"testing"

	"counterfoil/api"
	"counterfoil/disk"
	"counterfoil/frame"
	"counterfoil/gate"
	"counterfoil/ledger"
	"counterfoil/meter"
	"counterfoil/req"
	"counterfoil/sha"
	"counterfoil/vault"
)

// topmost is the greatest Seq, and the greatest Gen of a journal.
const topmost = 4294967295

// Counters, by their values.
const (
	bad     = 2
	stale   = 3
	served  = 4
	refused = 5
)

var table = sha.NewTable()

// some answers n bytes of which hardly one is like the next: other ones of each
// which.
func some(n, which int) []byte {
	b := make([]byte, n)
	rand.New(rand.NewSource(int64(n)*1000 + int64(which))).Read(b)
	return b
}

// spoil turns b, and its spare room.
func spoil(b []byte) {
	b = b[:cap(b)]
	for i := range b {
		b[i] ^= 0xff
	}
}

// low is n modulo 256.
func low(n int) byte { return byte((n%256 + 256) % 256) }

// tagOf is the tag of parts, one behind the other, by the library.
func tagOf(key []byte, parts ...[]byte) []byte {
	h := hmac.New(sha256.New, key)
	for _, b := range parts {
		h.Write(b)
	}
	return h.Sum(nil)
}

// keyOf, stampOf and receiptOf are Keys, Stamp and Receipt in the chapter's words.
func keyOf(seed []byte, party, which int) []byte {
	return tagOf(seed, []byte{low(party), low(which)})
}

func stampOf(seed []byte, which int) []byte { return tagOf(seed, []byte{255, low(which)}) }

func receiptOf(stamp []byte, party, which, seq int, answer []byte) []byte {
	head := binary.BigEndian.AppendUint32([]byte{low(party), low(which)}, uint32(seq))
	return tagOf(stamp, head, answer)
}

// note is what a note tells, and the key that it is sealed with.
type note struct {
	party, which, way, seq int
	body, key              []byte
}

// bytes is the note in the bytes of chapter 14.
func (n note) bytes() []byte {
	b := []byte{'n', low(n.party), low(n.which), low(n.way)}
	b = binary.BigEndian.AppendUint32(b, uint32(n.seq))
	b = binary.BigEndian.AppendUint32(b, uint32(len(n.body)))
	b = append(b, n.body...)
	return append(b, tagOf(n.key, b)...)
}

// formOf is what b tells, in the words of chapter 14, but for its key: false, if
// Peek tells that it is none.
func formOf(b []byte) (note, bool) {
	if len(b) < 44 || b[0] != 'n' || b[1] > 15 || b[2] > 1 || b[3] > 1 {
		return note{}, false
	}
	size := uint64(binary.BigEndian.Uint32(b[8:12]))
	if size > 60000 || uint64(len(b)) != 44+size {
		return note{}, false
	}
	seq := int(binary.BigEndian.Uint32(b[4:8]))
	return note{party: int(b[1]), which: int(b[2]), way: int(b[3]), seq: seq, body: b[12 : len(b)-32]}, true
}

func secret(c string) string { return strings.Repeat(c, 32) }

func hashed(s string) string {
	sum := sha256.Sum256([]byte(s))
	return string(sum[:])
}

// Requests, all of asset 0.
func give(to, amount int) req.Req { return req.Req{Kind: 1, To: to, Amount: amount} }

func lock(to, amount int, c string, deadline int) req.Req {
	return req.Req{Kind: 2, To: to, Amount: amount, Hash: hashed(secret(c)), Deadline: deadline}
}

func claim(id int, c string) req.Req { return req.Req{Kind: 3, ID: id, Secret: secret(c)} }

func refund(id int) req.Req { return req.Req{Kind: 4, ID: id} }

// batch is the requests of one who knows so many events, as bytes.
func batch(seen int, l ...req.Req) []byte {
	b, e := req.EncodeBatch(req.Batch{Seen: seen, Reqs: l})
	if e != api.OK {
		panic(e)
	}
	return b
}

// conf is of three parties, the last one of which has nothing.
func conf(events int) ledger.Conf {
	return ledger.Conf{Start: [][]int{{1000, 10}, {50, 0}, {0, 0}}, Events: events}
}

// rows is of so many parties that have n of asset 0.
func rows(parties, n int) [][]int {
	var l [][]int
	for range parties {
		l = append(l, []int{n})
	}
	return l
}

// sized is a disk that just does for c.
func sized(t *testing.T, c ledger.Conf) *disk.Disk {
	t.Helper()
	d, e := disk.New(vault.Need(c))
	if e != api.OK {
		t.Fatalf("P6.1: %d", e)
	}
	return d
}

// lasting is a disk of conf(12) with a picture of that Gen, in which nothing was
// done, and each party's last number is the one that is told: it was answered an
// empty batch.
func lasting(t *testing.T, gen int, lasts ...int) *disk.Disk {
	t.Helper()
	d := sized(t, conf(12))
	picture := append([]byte{0, 0, 0, 10}, make([]byte, 10)...)
	for _, n := range lasts {
		picture = binary.BigEndian.AppendUint32(picture, uint32(n))
		if n > 0 {
			picture = append(picture, make([]byte, 8+2+2+1)...)
		}
	}
	b, e := frame.Put(table, frame.Frame{Kind: 1, Gen: gen, Body: picture})
	if e != api.OK {
		t.Fatalf("P7.1: %d", e)
	}
	at := 0
	for sector := range slices.Chunk(b, 64) {
		d.Write(at, sector)
		at++
	}
	d.Sync()
	return d
}

// copied is a disk that has what d has.
func copied(t *testing.T, d *disk.Disk) *disk.Disk {
	t.Helper()
	c, e := disk.New(d.Len())
	for i := range d.Len() {
		b, _ := d.Read(i)
		c.Write(i, b)
	}
	if e != api.OK || c.Sync() != api.OK {
		t.Fatalf("P6.1: %d", e)
	}
	return c
}

// pair is a gate ahead of a vault, and beside it the chapter's words ahead of
// another vault, that is told by Handle what has to reach it, and nothing else.
type pair struct {
	t      *testing.T
	what   string
	c      ledger.Conf
	which  int
	seed   []byte
	d, e   *disk.Disk
	v, w   *vault.Vault
	m      *meter.Meter
	counts []int // what m has to tell
	g      *gate.Gate
}

// over is a pair of a gate over d, of which a copy is made.
func over(t *testing.T, c ledger.Conf, which int, seed []byte, d *disk.Disk, what string) *pair {
	t.Helper()
	x := &pair{t: t, what: what, c: c, which: which, seed: seed, d: d, e: copied(t, d), m: meter.New(), counts: make([]int, 8)}
	x.open()
	return x
}

// paired is a pair over an empty disk.
func paired(t *testing.T, c ledger.Conf, which int, what string) *pair {
	t.Helper()
	return over(t, c, which, []byte("the seed of all"), sized(t, c), what)
}

// open opens both vaults, and the gate.
func (x *pair) open() {
	x.t.Helper()
	v, e := vault.Open(table, x.c, x.d)
	w, f := vault.Open(table, x.c, x.e)
	if e != api.OK || f != api.OK {
		x.t.Fatalf("P13.1: %s: %d, %d", x.what, e, f)
	}
	x.v, x.w = v, w
	x.renew()
}

// renew puts a new gate ahead of the vault that is there.
func (x *pair) renew() {
	x.t.Helper()
	seed := bytes.Clone(x.seed)
	x.g = gate.New(table, x.which, seed, x.v, x.m)
	spoil(seed)
	x.holds()
}

// key and stamp are those of x's seed and ledger.
func (x *pair) key(party int) []byte { return keyOf(x.seed, party, x.which) }
func (x *pair) stamp() []byte        { return stampOf(x.seed, x.which) }

// ask is a note of party that is in order.
func (x *pair) ask(party, seq int, body []byte) note {
	return note{party: party, which: x.which, seq: seq, body: body, key: x.key(party)}
}

// next is the note of party that is due.
func (x *pair) next(party int, l ...req.Req) note {
	return x.ask(party, x.w.Last(party)+1, batch(0, l...))
}

// plain is Take in the chapter's words, and the counter that is one more by it.
func (x *pair) plain(b []byte, clock int) ([]byte, int, api.Errno) {
	n, ok := formOf(b)
	if !ok || n.which != x.which || n.way != 0 {
		return nil, bad, 2
	}
	if n.party >= len(x.c.Start) {
		return nil, bad, 14
	}
	if n.seq == 0 {
		return nil, bad, 2
	}
	n.key = x.key(n.party)
	if !bytes.Equal(n.bytes(), b) {
		return nil, bad, 4
	}
	answer, e := x.w.Handle(n.party, n.seq, clock, n.body)
	switch e {
	case 0:
		n.way, n.body = 1, slices.Concat(answer, receiptOf(x.stamp(), n.party, n.which, n.seq, answer))
		return n.bytes(), served, 0
	case 5:
		return nil, stale, 5
	}
	return nil, refused, e
}

// take takes b, and holds what comes of it against the chapter's words.
func (x *pair) take(b []byte, clock int) ([]byte, api.Errno) {
	x.t.Helper()
	want, counter, wrong := x.plain(b, clock)
	got, e := x.g.Take(b, clock)
	x.counts[counter]++
	if e != wrong || !bytes.Equal(got, want) {
		x.t.Fatalf("P15.2: %s: Take of %x at %d: %d, %x, not %d, %x", x.what, b, clock, e, got, wrong, want)
	}
	if all := x.m.All(); !slices.Equal(all, x.counts) {
		x.t.Fatalf("P15.2: %s: Take of %x: %d: the meter tells %v, not %v", x.what, b, e, all, x.counts)
	}
	return got, e
}

// answered takes a note that is in order, and answers what the ledger said.
func (x *pair) answered(n note, clock int) []byte {
	x.t.Helper()
	was := x.m.Get(served)
	b, e := x.take(n.bytes(), clock)
	m, ok := formOf(b)
	if e != api.OK || !ok || x.m.Get(served) != was+1 || m.party != n.party || m.which != n.which || m.way != 1 || m.seq != n.seq || len(m.body) < 32 {
		x.t.Fatalf("P15.2: %s: Take of %v: %d, %v", x.what, n, e, m)
	}
	m.key = n.key
	answer, receipt := m.body[:len(m.body)-32], m.body[len(m.body)-32:]
	if !bytes.Equal(m.bytes(), b) || !bytes.Equal(receipt, receiptOf(x.stamp(), n.party, n.which, n.seq, answer)) {
		x.t.Fatalf("P15.2: %s: Take of %v: %x", x.what, n, b)
	}
	return answer
}

// refused takes b, which has to be e, and one more of counter, and nothing else.
func (x *pair) refused(e api.Errno, counter int, b []byte, clock int) {
	x.t.Helper()
	counts := x.m.All()
	counts[counter]++
	was, done := x.state(), x.v.Served()
	if got, wrong := x.take(b, clock); wrong != e || len(got) > 0 || !slices.Equal(x.m.All(), counts) {
		x.t.Fatalf("P15.2: %s: Take of %x: %d, not %d, %v, not %v, %x", x.what, b, wrong, e, x.m.All(), counts, got)
	}
	if !bytes.Equal(x.state(), was) || x.v.Served() != done {
		x.t.Fatalf("P15.2: %s: Take of %x: %d, and something changed", x.what, b, e)
	}
}

// state is what the vault tells of its parties, and its ledger's Save.
func (x *pair) state() []byte {
	saved, _ := x.v.Ledger().Save()
	for party := range 16 {
		saved = binary.BigEndian.AppendUint64(saved, uint64(x.v.Last(party)))
	}
	return saved
}

// holds holds all that can be told of the one vault against the other one, and the
// one disk against the other one.
func (x *pair) holds() {
	x.t.Helper()
	if all := x.m.All(); !slices.Equal(all, x.counts) {
		x.t.Fatalf("P15.2: %s: the meter tells %v, not %v", x.what, all, x.counts)
	}
	if x.v.Served() != x.w.Served() || x.v.Down() != x.w.Down() {
		x.t.Fatalf("P15.2: %s: Served %d, Down %t, not %d, %t", x.what, x.v.Served(), x.v.Down(), x.w.Served(), x.w.Down())
	}
	for party := -1; party < 18; party++ {
		if x.v.Last(party) != x.w.Last(party) {
			x.t.Fatalf("P15.2: %s: Last(%d): %d, not %d", x.what, party, x.v.Last(party), x.w.Last(party))
		}
	}
	saved, _ := x.v.Ledger().Save()
	want, _ := x.w.Ledger().Save()
	if !bytes.Equal(saved, want) {
		x.t.Fatalf("P15.2: %s: the ledger is %x, not %x", x.what, saved, want)
	}
	for i := range x.d.Len() {
		b, e := x.d.Read(i)
		c, f := x.e.Read(i)
		if e != f || !bytes.Equal(b, c) {
			x.t.Fatalf("P15.2: %s: sector %d: %d, %x, not %d, %x", x.what, i, e, b, f, c)
		}
	}
}

// fuse sets the fuse of both disks, crash crashes both.
func (x *pair) fuse(n int) {
	x.d.Fuse(n)
	x.e.Fuse(n)
}

func (x *pair) crash(keep ...bool) {
	x.d.Crash(keep)
	x.e.Crash(keep)
}
