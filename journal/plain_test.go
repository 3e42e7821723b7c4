package journal

import (
	"bytes"
	"crypto/sha256"
	"encoding/binary"
	"math/rand"
	"slices"
	"testing"

	"counterfoil/api"
	"counterfoil/disk"
	"counterfoil/frame"
	"counterfoil/sha"
)

// told is all that a Journal tells.
type told struct {
	pictured  bool
	picture   []byte
	records   [][]byte
	gen, room int
}

// tells asks j for all that it tells.
func tells(j *Journal) told {
	b, ok := j.Picture()
	return told{ok, b, j.Records(), j.Gen(), j.Room()}
}

func same(a, b told) bool {
	return a.pictured == b.pictured && bytes.Equal(a.picture, b.picture) &&
		slices.EqualFunc(a.records, b.records, bytes.Equal) && a.gen == b.gen && a.room == b.room
}

// laid is f in sectors, by the library.
func laid(f frame.Frame) [][]byte {
	head := []byte{'c', 'f', byte(f.Kind), 0}
	for _, n := range []int{f.Gen, f.Seq, len(f.Body)} {
		head = binary.BigEndian.AppendUint32(head, uint32(n))
	}
	sum := sha256.Sum256(slices.Concat(head, f.Body))
	var l [][]byte
	for part := range slices.Chunk(slices.Concat(head, sum[:8], f.Body), 63) {
		s := make([]byte, 64)
		s[0] = byte(min(2, 1+len(l)))
		copy(s[1:], part)
		l = append(l, s)
	}
	return l
}

// parsed is the frame that stands at the beginning of these sectors, and how
// many it has; 0, if none does.
func parsed(l [][]byte) (frame.Frame, int) {
	var text []byte
	for i, s := range l {
		if int(s[0]) != min(2, 1+i) {
			break
		}
		text = append(text, s[1:]...)
	}
	if len(text) < 63 || string(text[:2]) != "cf" || text[3] != 0 {
		return frame.Frame{}, 0
	}
	four := func(at int) int { return int(binary.BigEndian.Uint32(text[at:])) }
	size := four(12)
	if size > 60000 || 24+size > len(text) {
		return frame.Frame{}, 0
	}
	f := frame.Frame{Kind: int(text[2]), Gen: four(4), Seq: four(8), Body: text[24 : 24+size]}
	n := (24 + size + 62) / 63
	// The sum, and the bytes 0 behind the Body, are held by laying it again.
	if !slices.EqualFunc(l[:n], laid(f), bytes.Equal) {
		return frame.Frame{}, 0
	}
	return f, n
}

// halfOf is what these sectors tell, if they are the half that holds.
func halfOf(l [][]byte) told {
	var w told
	if f, n := parsed(l); n > 0 && f.Kind == 1 && f.Seq == 0 {
		w.pictured, w.picture, w.gen = true, f.Body, f.Gen
		l = l[n:]
	}
	for {
		f, n := parsed(l)
		if n == 0 || f.Kind != 2 || f.Gen != w.gen || f.Seq != len(w.records)+1 {
			break
		}
		w.records = append(w.records, f.Body)
		l = l[n:]
	}
	w.room = len(l)
	return w
}

// plain is a Journal in the chapter's words, with a disk of its own.
type plain struct {
	told
	d    *disk.Disk
	from int
	down bool
}

func openPlain(t *testing.T, d *disk.Disk) *plain {
	t.Helper()
	p := &plain{d: d}
	if d.Down() {
		p.down = true
		return p
	}
	all := contents(t, d)
	n := len(all) / 2
	p.told = halfOf(all[:n])
	if other := halfOf(all[n : 2*n]); other.pictured && (!p.pictured || other.gen > p.gen) {
		p.told, p.from = other, n
	}
	return p
}

// lay does to p's disk what makes f last, sector by sector.
func (p *plain) lay(f frame.Frame, at, room int) api.Errno {
	p.down = p.down || p.d.Down()
	switch {
	case p.down:
		return api.ErrDown
	case len(f.Body) > 60000:
		return api.ErrLong
	case (24+len(f.Body)+62)/63 > room || f.Gen == 1<<32:
		return api.ErrFull
	}
	l := laid(f)
	ok := true
	for i := 1; i < len(l); i++ {
		ok = ok && p.d.Write(at+i, l[i]) == api.OK
	}
	if len(l) > 1 {
		ok = ok && p.d.Sync() == api.OK
	}
	ok = ok && p.d.Write(at, l[0]) == api.OK
	ok = ok && p.d.Sync() == api.OK
	if !ok {
		p.down = true
		return api.ErrDown
	}
	return api.OK
}

func (p *plain) append(b []byte) api.Errno {
	f := frame.Frame{Kind: 2, Gen: p.gen, Seq: len(p.records) + 1, Body: b}
	e := p.lay(f, p.from+p.d.Len()/2-p.room, p.room)
	if e == api.OK {
		p.records = append(p.records, bytes.Clone(b))
		p.room -= (24 + len(b) + 62) / 63
	}
	return e
}

func (p *plain) compact(b []byte) api.Errno {
	n := p.d.Len() / 2
	to := n
	if p.from > 0 {
		to = 0
	}
	e := p.lay(frame.Frame{Kind: 1, Gen: p.gen + 1, Body: b}, to, n)
	if e == api.OK {
		p.from = to
		p.told = told{true, bytes.Clone(b), nil, p.gen + 1, n - (24+len(b)+62)/63}
	}
	return e
}

// contents are all sectors of d, which is up.
func contents(t *testing.T, d *disk.Disk) [][]byte {
	t.Helper()
	l := make([][]byte, d.Len())
	for i := range l {
		b, e := d.Read(i)
		if e != api.OK {
			t.Fatalf("P6.1: Read(%d): %d", i, e)
		}
		l[i] = b
	}
	return l
}

// pair is a Journal and a plain one, each with a disk of its own; whatever is
// done to the one is done to the other, and both are held against each other.
type pair struct {
	t     *testing.T
	what  string
	table *sha.Table
	d     *disk.Disk
	j     *Journal
	p     *plain
}

// paired answers a pair with empty disks of n sectors.
func paired(t *testing.T, n int, what string) *pair {
	t.Helper()
	x := &pair{t: t, what: what, table: sha.NewTable(), d: made(t, n), p: &plain{d: made(t, n)}}
	x.open()
	return x
}

func made(t *testing.T, n int) *disk.Disk {
	t.Helper()
	d, e := disk.New(n)
	if d == nil || e != api.OK {
		t.Fatalf("P6.1: New(%d): %d", n, e)
	}
	return d
}

// holds asks for all that may be asked, twice: asking changes nothing.
func (x *pair) holds() {
	x.t.Helper()
	for range 2 {
		if got := tells(x.j); !same(got, x.p.told) {
			x.t.Fatalf("P8.1: %s: %v, not %v", x.what, got, x.p.told)
		}
		x.alike()
	}
}

// alike holds the disks against each other.
func (x *pair) alike() {
	x.t.Helper()
	if x.d.Down() != x.p.d.Down() || x.d.Pending() != x.p.d.Pending() {
		x.t.Fatalf("P8.2: %s: the disk: Down %t, Pending %d, not %t, %d", x.what, x.d.Down(), x.d.Pending(), x.p.d.Down(), x.p.d.Pending())
	}
	if x.d.Down() {
		return
	}
	want := contents(x.t, x.p.d)
	for i, b := range contents(x.t, x.d) {
		if !bytes.Equal(b, want[i]) {
			x.t.Fatalf("P8.2: %s: sector %d: %x, not %x", x.what, i, b, want[i])
		}
	}
}

func (x *pair) open() {
	x.t.Helper()
	x.j, x.p = Open(x.table, x.d), openPlain(x.t, x.p.d)
	if x.j == nil {
		x.t.Fatalf("P8.1: %s: Open: nil", x.what)
	}
	x.holds()
}

// append and compact answer what both answered.
func (x *pair) append(b []byte) api.Errno {
	x.t.Helper()
	got, want := x.j.Append(b), x.p.append(b)
	if got != want {
		x.t.Fatalf("P8.2: %s: Append of %d bytes: %d, not %d", x.what, len(b), got, want)
	}
	x.holds()
	return got
}

func (x *pair) compact(b []byte) api.Errno {
	x.t.Helper()
	got, want := x.j.Compact(b), x.p.compact(b)
	if got != want {
		x.t.Fatalf("P8.3: %s: Compact of %d bytes: %d, not %d", x.what, len(b), got, want)
	}
	x.holds()
	return got
}

func (x *pair) fuse(n int) {
	x.d.Fuse(n)
	x.p.d.Fuse(n)
}

func (x *pair) crash(keep []bool) {
	x.t.Helper()
	x.d.Crash(keep)
	x.p.d.Crash(keep)
	x.holds()
}

// raw writes a sector past both Journals, which do not see it.
func (x *pair) raw(i int, b []byte) {
	x.t.Helper()
	if got, want := x.d.Write(i, b), x.p.d.Write(i, b); got != want {
		x.t.Fatalf("P6.1: Write(%d): %d, not %d", i, got, want)
	}
	x.holds()
}

// sync lets all that was written raw last.
func (x *pair) sync() {
	x.t.Helper()
	if got, want := x.d.Sync(), x.p.d.Sync(); got != want {
		x.t.Fatalf("P6.1: Sync: %d, not %d", got, want)
	}
	x.holds()
}

// frame writes f raw from sector at on.
func (x *pair) frame(at int, f frame.Frame) {
	x.t.Helper()
	for i, b := range laid(f) {
		x.raw(at+i, b)
	}
	x.sync()
}

// must holds that e is want.
func (x *pair) must(e, want api.Errno) {
	x.t.Helper()
	if e != want {
		x.t.Fatalf("P8.2: %s: %d, not %d", x.what, e, want)
	}
}

// is holds what is told against words that no plain one was asked for.
func (x *pair) is(gen, room int, texts ...string) {
	x.t.Helper()
	got := []string{}
	if b, ok := x.j.Picture(); ok {
		got = append(got, "picture "+string(b))
	}
	for _, b := range x.j.Records() {
		got = append(got, string(b))
	}
	if !slices.Equal(got, texts) || x.j.Gen() != gen || x.j.Room() != room {
		x.t.Fatalf("P8.1: %s: Gen %d, Room %d, %q, not %d, %d, %q", x.what, x.j.Gen(), x.j.Room(), got, gen, room, texts)
	}
}

// body answers n bytes, none of them 0, of which no two sectors are alike.
func body(n int) []byte {
	b := make([]byte, n)
	for i := range b {
		b[i] = byte(1 + (i*i/5+i*7+n)%255)
	}
	return b
}

// TestAsPlain does what comes, and holds a Journal against a plain one.
func TestAsPlain(t *testing.T) {
	r := rand.New(rand.NewSource(8))
	for range 400 {
		x := paired(t, 1+r.Intn(30), "as plain")
		for range 60 {
			x.step(r)
		}
	}
}

// some answers a Body whose size is mostly near an edge of the sectors.
func some(r *rand.Rand) []byte {
	b := make([]byte, max(0, 63*r.Intn(5)-26+r.Intn(5)))
	r.Read(b)
	return b
}

// step does one thing, chosen by r.
func (x *pair) step(r *rand.Rand) {
	x.t.Helper()
	switch r.Intn(16) {
	case 0:
		x.fuse(r.Intn(8) - 1)
	case 1:
		x.crashed(r)
	case 2:
		x.open()
	case 3, 4, 5:
		x.compact(some(r))
	case 6:
		x.scribble(r)
	case 7:
		x.append(make([]byte, 60001))
	default:
		x.append(some(r))
	}
	if x.d.Down() && r.Intn(3) > 0 {
		x.crashed(r)
		if r.Intn(4) > 0 {
			x.open()
		}
	}
}

func (x *pair) crashed(r *rand.Rand) {
	x.t.Helper()
	keep := make([]bool, r.Intn(9))
	for k := range keep {
		keep[k] = r.Intn(2) > 0
	}
	x.crash(keep)
}

// scribble writes something raw: a frame that is near to one that counts, or a
// sector of bytes 0.
func (x *pair) scribble(r *rand.Rand) {
	x.t.Helper()
	at := r.Intn(x.d.Len())
	if r.Intn(2) > 0 {
		at = r.Intn(2) * (x.d.Len() / 2)
	}
	l := laid(frame.Frame{Kind: 1 + r.Intn(2), Gen: max(0, x.j.Gen()+r.Intn(3)-1), Seq: r.Intn(3), Body: some(r)})
	if r.Intn(3) == 0 {
		l = [][]byte{make([]byte, 64)}
	}
	for i, b := range l {
		x.raw(at+i, b)
	}
	if r.Intn(2) > 0 {
		x.sync()
	}
}
