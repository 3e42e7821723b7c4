package post_test

import (
	"fmt"
	"math/rand"
	"testing"

	"counterfoil/api"
	"counterfoil/disk"
	"counterfoil/gate"
	"counterfoil/ledger"
	"counterfoil/line"
	"counterfoil/meter"
	"counterfoil/post"
	"counterfoil/req"
	"counterfoil/seal"
	"counterfoil/sha"
	"counterfoil/vault"
)

const (
	parties = 3
	batches = 25 // of each party to each ledger
)

// scene is two ledgers, to whom 0 and 1 go, the parties, to whom 2 and on go, and the
// post between them.
type scene struct {
	t     *testing.T
	table *sha.Table
	r     *rand.Rand
	most  int
	q     *post.Post
	v     [2]*vault.Vault
	g     [2]*gate.Gate
	lines [parties][2]*line.Line
	got   [parties][2]int // how often an answer was got
	under map[string]int  // of each parcel how often it is under way
}

func newScene(t *testing.T, most int) *scene {
	t.Helper()
	x := &scene{t: t, table: sha.NewTable(), r: rand.New(rand.NewSource(int64(most))), most: most, under: map[string]int{}}
	var e api.Errno
	if x.q, e = post.New(most); e != api.OK {
		t.Fatalf("P17.1: New(%d): %d", most, e)
	}
	c := ledger.Conf{Start: [][]int{{1000}, {1000}, {1000}}, Events: 200}
	for which := range 2 {
		d, e := disk.New(vault.Need(c))
		if e != api.OK {
			t.Fatal(e)
		}
		if x.v[which], e = vault.Open(x.table, c, d); e != api.OK {
			t.Fatal(e)
		}
		x.g[which] = gate.New(x.table, which, []byte("seed"), x.v[which], meter.New())
		for party := range parties {
			x.lines[party][which] = line.New(party, which, 0)
		}
	}
	return x
}

func (x *scene) key(party, which int) []byte {
	return gate.Keys(x.table, []byte("seed"), party, which)
}

// put puts b, which is lost where the post is full.
func (x *scene) put(to int, b []byte) {
	x.t.Helper()
	want := api.OK
	if x.q.Len() == x.most {
		want = api.ErrFull
	}
	if e := x.q.Put(to, b); e != want {
		x.t.Fatalf("P17.1: Put of %d bytes: %d, not %d", len(b), e, want)
	}
	if want == api.OK {
		x.under[name(post.Parcel{To: to, Bytes: b})]++
	}
}

// act lets the party send what it has for the ledger: a batch once more, if it waits,
// else the next one.
func (x *scene) act(party, which int) {
	x.t.Helper()
	n, busy := x.lines[party][which].Again()
	if !busy {
		if n.Seq = x.lines[party][which].Seq(); n.Seq == batches {
			return
		}
		l := []req.Req{{Kind: req.Transfer, To: (party + 1) % parties, Amount: party + 1}}
		body, e := req.EncodeBatch(req.Batch{Reqs: l})
		if e != api.OK {
			x.t.Fatal(e)
		}
		if n, e = x.lines[party][which].Send(body); e != api.OK {
			x.t.Fatal(e)
		}
	}
	b, e := seal.Seal(x.table, x.key(party, which), n)
	if e != api.OK {
		x.t.Fatal(e)
	}
	x.put(which, b)
}

// deliver takes the i-th parcel to where it goes.
func (x *scene) deliver(i int) {
	x.t.Helper()
	got, ok := x.q.Take(i)
	if !ok {
		x.t.Fatalf("P17.1: Take(%d) of %d: false", i, x.q.Len())
	}
	x.under[name(got)]--
	if x.under[name(got)] < 0 {
		x.t.Fatalf("P17.3: %s came more often than it was put and copied", show(got))
	}
	party, which, _, e := seal.Peek(got.Bytes)
	if e != api.OK || got.To != which && got.To != 2+party {
		x.t.Fatalf("P17.3: %s is no note, or not to whom it was put: %d", show(got), e)
	}
	if got.To >= 2 {
		n, e := seal.Open(x.table, x.key(party, which), got.Bytes)
		if e != api.OK {
			x.t.Fatalf("P17.3: %s was turned: %d", show(got), e)
		}
		if _, e = x.lines[party][which].Got(n); e == api.OK {
			x.got[party][which]++
		}
		return
	}
	told, e := x.g[which].Take(got.Bytes, 5)
	switch e {
	case api.OK:
		x.put(2+party, told)
	case api.ErrStale:
	default:
		x.t.Fatalf("P17.3: %s was turned: %d", show(got), e)
	}
}

// lose drops the i-th parcel.
func (x *scene) lose(i int) {
	x.t.Helper()
	seen, _ := x.q.At(i)
	if !x.q.Drop(i) {
		x.t.Fatalf("P17.1: Drop(%d): false", i)
	}
	x.under[name(seen)]--
}

// double copies the i-th parcel, where there is room.
func (x *scene) double(i int) {
	x.t.Helper()
	seen, _ := x.q.At(i)
	want := api.OK
	if x.q.Len() == x.most {
		want = api.ErrFull
	}
	if e := x.q.Copy(i); e != want {
		x.t.Fatalf("P17.1: Copy(%d): %d, not %d", i, e, want)
	}
	if want == api.OK {
		x.under[name(seen)]++
	}
}

// over tells if all batches were answered.
func (x *scene) over() bool {
	for _, l := range x.lines {
		for _, one := range l {
			if one.Seq() != batches || one.Busy() {
				return false
			}
		}
	}
	return true
}

// TestTalks lets parties talk with both ledgers over a post that loses, doubles and
// turns about: each batch is handled once and answered once.
func TestTalks(t *testing.T) {
	for _, most := range []int{1, 2, 9, 200} {
		x := newScene(t, most)
		for steps := 0; !x.over(); steps++ {
			if steps > 200000 {
				t.Fatalf("P17.1: of %d under way too few come", most)
			}
			if n := x.q.Len(); n > 0 {
				switch i := x.r.Intn(n); x.r.Intn(8) {
				case 0:
					x.lose(i)
				case 1:
					x.double(i)
				case 2, 3, 4, 5:
					x.deliver(i)
				}
			}
			x.act(x.r.Intn(parties), x.r.Intn(2))
		}
		for which := range 2 {
			if served := x.v[which].Served(); served != parties*batches {
				t.Errorf("P17.3: %d batches were handled, not %d", served, parties*batches)
			}
			for party := range parties {
				if x.got[party][which] != batches {
					t.Errorf("P17.3: party %d got %d answers, not %d", party, x.got[party][which], batches)
				}
			}
		}
		has := fmt.Sprint(x.v[0].Ledger().Has(0, 0), x.v[1].Ledger().Has(1, 0), x.v[0].Ledger().Has(2, 0))
		if want := fmt.Sprint(1000+2*batches, 1000-batches, 1000-batches); has != want {
			t.Errorf("P17.3: the parties have %s, not %s", has, want)
		}
	}
}

// TestLongestNote: each note that may be sealed goes in, and comes as it went.
func TestLongestNote(t *testing.T) {
	x := newScene(t, 2)
	for way := range 2 {
		b, e := seal.Seal(x.table, x.key(1, 0), seal.Note{Party: 1, Way: way, Seq: 1, Body: some(api.MaxRecord, way)})
		if e != api.OK {
			t.Fatal(e)
		}
		x.put(3, b)
		x.double(0)
		for range 2 {
			got, _ := x.q.Take(0)
			if n, e := seal.Open(x.table, x.key(1, 0), got.Bytes); e != api.OK || string(n.Body) != string(some(api.MaxRecord, way)) {
				t.Errorf("P17.3: the longest note: %s, %d", show(got), e)
			}
		}
	}
}
