package vault

import (
	"bytes"
	"crypto/sha256"
	"fmt"
	"math"
	"slices"
	"strings"
	"testing"

	"counterfoil/api"
	"counterfoil/disk"
	"counterfoil/frame"
	"counterfoil/journal"
	"counterfoil/ledger"
	"counterfoil/req"
)

// nones are numbers of which some are none of a party, and most none of a batch.
var nones = []int{
	math.MinInt, math.MinInt + 1, -1 << 32, -256, -2, -1, 0, 1, 2, 3, 4, 15, 16, 17, 255, 256, 257,
	65535, 65536, 1<<32 - 1, 1 << 32, 1<<32 + 1, math.MaxInt - 1, math.MaxInt,
}

// secret is a text of 32 bytes c, and hashed the library's SHA-256 of a text.
func secret(c string) string { return strings.Repeat(c, 32) }

func hashed(s string) string {
	sum := sha256.Sum256([]byte(s))
	return string(sum[:])
}

// give, lock, claim and refund are whole requests.
func give(to, amount int) req.Req { return req.Req{Kind: 1, To: to, Amount: amount} }

func lock(to, amount int, c string, deadline int) req.Req {
	return req.Req{Kind: 2, To: to, Amount: amount, Hash: hashed(secret(c)), Deadline: deadline}
}

func claim(id int, c string) req.Req { return req.Req{Kind: 3, ID: id, Secret: secret(c)} }

func refund(id int) req.Req { return req.Req{Kind: 4, ID: id} }

// batch is a Batch as bytes.
func batch(seen int, l ...req.Req) []byte {
	b, e := req.EncodeBatch(req.Batch{Seen: seen, Reqs: l})
	if e != api.OK {
		panic(fmt.Sprint("no batch: ", l))
	}
	return b
}

// conf is the beginning of most tests: three parties and two assets.
func conf(events int) ledger.Conf {
	return ledger.Conf{Start: [][]int{{1000, 10}, {50, 0}, {0, 5}}, Events: events}
}

// pair is a Vault and a plain one; whatever is done to the one is done to the
// other, and both are held against each other.
type pair struct {
	t    *testing.T
	what string
	c    ledger.Conf
	d    *disk.Disk
	v    *Vault
	p    *plain
}

// sized answers an empty disk of n sectors.
func sized(t *testing.T, n int) *disk.Disk {
	t.Helper()
	d, e := disk.New(n)
	if e != api.OK {
		t.Fatalf("P6.1: New(%d): %d", n, e)
	}
	return d
}

// paired answers a pair over an empty disk that is as small as may be.
func paired(t *testing.T, c ledger.Conf, what string) *pair {
	t.Helper()
	return over(t, c, sized(t, Need(c)), what)
}

// over answers a pair over d, which tells what can be opened.
func over(t *testing.T, c ledger.Conf, d *disk.Disk, what string) *pair {
	t.Helper()
	x := &pair{t: t, what: what, c: c, d: d}
	v, e := Open(table, c, d)
	p, ok := opened(c, tells(d), d.Len()/2)
	if v == nil || e != api.OK || !ok {
		t.Fatalf("P13.1: %s: Open: %d, and %t", what, e, ok)
	}
	x.v, x.p = v, p
	x.holds()
	return x
}

// tells is what a journal on d tells.
func tells(d *disk.Disk) store {
	j := journal.Open(table, d)
	b, ok := j.Picture()
	return store{j.Gen(), ok, b, j.Records()}
}

// contents are all sectors of d, which is up.
func contents(d *disk.Disk) []byte {
	var all []byte
	for i := range d.Len() {
		b, _ := d.Read(i)
		all = append(all, b...)
	}
	return all
}

// handle asks both, and holds the answers, and what is left, against each other.
func (x *pair) handle(party, seq, clock int, batch []byte) ([]byte, api.Errno) {
	x.t.Helper()
	want, e := x.p.handle(party, seq, clock, batch)
	got, f := x.v.Handle(party, seq, clock, batch)
	if f != e || !bytes.Equal(got, want) {
		x.t.Fatalf("P13.2: %s: Handle(%d, %d, %d, %x):\n%x, %d, not\n%x, %d", x.what, party, seq, clock, batch, got, f, want, e)
	}
	if why := x.differ(); why != "" {
		x.t.Fatalf("P13.2: %s: behind Handle(%d, %d, %d, %x): %s", x.what, party, seq, clock, batch, why)
	}
	return got, f
}

// next lets party's next batch be handled.
func (x *pair) next(party, clock int, l ...req.Req) []byte {
	x.t.Helper()
	b, e := x.handle(party, x.p.last(party)+1, clock, batch(0, l...))
	if e != api.OK {
		x.t.Fatalf("P13.2: %s: %d", x.what, e)
	}
	return b
}

// refused holds that both answer e, and that nothing is changed.
func (x *pair) refused(e api.Errno, party, seq, clock int, batch []byte) {
	x.t.Helper()
	was := x.p.fold()
	if _, f := x.handle(party, seq, clock, batch); f != e {
		x.t.Fatalf("P13.2: %s: Handle(%d, %d, %d, %x): %d, not %d", x.what, party, seq, clock, batch, f, e)
	}
	if !bytes.Equal(x.p.fold(), was) {
		x.t.Fatalf("P13.2: %s: what is refused changes something", x.what)
	}
}

// differ tells what v says otherwise than p, and nothing, if it says the same.
func (x *pair) differ() string {
	if x.v.Down() != x.p.down || x.v.Served() != x.p.served {
		return fmt.Sprintf("Down() %t, Served() %d, not %t, %d", x.v.Down(), x.v.Served(), x.p.down, x.p.served)
	}
	for party := range x.p.lasts {
		if got := x.v.Last(party); got != x.p.last(party) {
			return fmt.Sprintf("Last(%d): %d, not %d", party, got, x.p.last(party))
		}
	}
	got, _ := x.v.Ledger().Save()
	if want, _ := x.p.l.Save(); !bytes.Equal(got, want) {
		return fmt.Sprintf("Ledger():\n%x, not\n%x", got, want)
	}
	for party := range x.p.lasts {
		for asset := range x.c.Start[0] {
			if got, want := x.v.Ledger().Has(party, asset), x.p.l.Has(party, asset); got != want {
				return fmt.Sprintf("Ledger().Has(%d, %d): %d, not %d", party, asset, got, want)
			}
		}
	}
	if x.d.Down() != x.p.dark {
		return fmt.Sprintf("the disk: Down() %t, not %t", x.d.Down(), x.p.dark)
	}
	if got := tells(x.d); !x.p.dark && x.p.under == nil && !sameStore(got, x.p.store) {
		return fmt.Sprintf("the journal tells\n%v, not\n%v", got, x.p.store)
	}
	return ""
}

// holds asks v for all that it tells, of parties that are none, too, and for each
// answer again: asking changes nothing.
func (x *pair) holds() {
	x.t.Helper()
	for _, party := range nones {
		if got := x.v.Last(party); got != x.p.last(party) {
			x.t.Fatalf("P13.1: %s: Last(%d): %d, not %d", x.what, party, got, x.p.last(party))
		}
	}
	for party := range x.p.lasts {
		if x.p.last(party) > 0 {
			x.handle(party, x.p.last(party), 1<<40-party, []byte("another one"))
		}
	}
	if why := x.differ(); why != "" {
		x.t.Fatalf("P13.1: %s: %s", x.what, why)
	}
}

// fuse, crash and open do the same to both.
func (x *pair) fuse(n int) {
	x.d.Fuse(n)
	x.p.fuse = n
}

func (x *pair) crash(keep []bool) {
	x.t.Helper()
	x.d.Crash(keep)
	x.p.crash(keep)
}

func (x *pair) open() {
	x.t.Helper()
	p, ok := opened(x.c, x.p.store, x.p.half)
	v, e := Open(table, x.c, x.d)
	if v == nil || e != api.OK || !ok {
		x.t.Fatalf("P13.5: %s: Open: %d, and %t", x.what, e, ok)
	}
	x.v, x.p = v, p
	x.holds()
}

// with answers a disk whose journal tells picture, if there is one, and records.
func with(t *testing.T, c ledger.Conf, picture []byte, records ...[]byte) *disk.Disk {
	t.Helper()
	d := sized(t, Need(c))
	j := journal.Open(table, d)
	if picture != nil {
		if e := j.Compact(picture); e != api.OK {
			t.Fatalf("P8.3: %d", e)
		}
	}
	for _, b := range records {
		if e := j.Append(b); e != api.OK {
			t.Fatalf("P8.2: %d", e)
		}
	}
	return d
}

// raw writes f from sector at on, past any journal.
func raw(t *testing.T, d *disk.Disk, at int, f frame.Frame) {
	t.Helper()
	b, e := frame.Put(table, f)
	if e != api.OK {
		t.Fatalf("P7.1: %d", e)
	}
	for sector := range slices.Chunk(b, 64) {
		if e := d.Write(at, sector); e != api.OK {
			t.Fatalf("P6.1: %d", e)
		}
		at++
	}
	d.Sync()
}

// scene answers a pair behind some batches of two parties: the third never asked.
func scene(t *testing.T, events int) *pair {
	t.Helper()
	x := paired(t, conf(events), "a scene")
	x.next(0, 5, give(1, 7), lock(1, 3, "s", 20), give(1, 5000))
	x.next(1, 9, claim(0, "s"), refund(4), give(0, 0))
	x.handle(0, 2, 9, batch(2, lock(1, 1, "t", 10)))
	x.handle(1, 2, 11, batch(60000))
	x.handle(0, 3, 0, batch(4, refund(1), refund(1)))
	return x
}
