package vault

import (
	"bytes"
	"slices"
	"testing"

	"counterfoil/api"
	"counterfoil/frame"
	"counterfoil/ledger"
	"counterfoil/req"
)

// TestFull lets the journal run full some times over, with records of each size,
// the last one of which just goes in, or just doesn't.
func TestFull(t *testing.T) {
	for n := range 9 {
		x := scene(t, 12)
		asked := slices.Repeat([]req.Req{refund(70)}, 20*n)[:min(20*n, 64)]
		gens := 0
		for k := 0; gens < 4; k++ {
			was := x.p.store
			full := x.p.full(laidRecord(0, 1, 1, batch(0, asked...)))
			x.next(k%3, 20+k, asked...)
			if full {
				gens++
				if x.p.store.gen != was.gen+1 || len(x.p.store.records) != 1 {
					t.Fatalf("P13.2: Gen %d behind %d", x.p.store.gen, was.gen)
				}
			} else if x.p.store.gen != was.gen {
				t.Fatalf("P13.2: a picture, and there is room")
			}
			if k%7 == 0 {
				x.open()
			}
		}
		x.open()
	}
}

// TestPictureByHand holds a picture against bytes that were written by hand: of a
// party who never asked, of one whose batch was empty, and of one whose batch had
// Seen more than there was.
func TestPictureByHand(t *testing.T) {
	x := paired(t, conf(12), "by hand")
	x.next(2, 3, give(0, 0), give(0, 1))
	x.next(0, 258, give(1, 7), lock(1, 5, "s", 300), lock(1, 5, "s", 300))
	x.handle(2, 2, 258, batch(9))
	hash := hashed(secret("s"))
	locked := func(id byte) []byte {
		return slices.Concat([]byte{0, 0, 0, 0, 0, 0, 0, 1, 2, 2, 0, 1, 0, 0, 0, 0, 0, 0, 0, 0, 5, 0, id}, []byte(hash), []byte{0, 0, 0, 0, 0, 0, 1, 44})
	}
	saved := slices.Concat(
		[]byte{0, 0, 0, 0, 0, 0, 1, 2, 0, 3},
		[]byte{0, 0, 0, 0, 0, 0, 0, 1, 2, 1, 0, 1, 0, 0, 0, 0, 0, 0, 0, 0, 7},
		locked(0), locked(1),
	)
	want := slices.Concat(
		[]byte{0, 0, 0, byte(len(saved))}, saved,
		[]byte{0, 0, 0, 1, 0, 0, 0, 0, 0, 0, 1, 2, 0, 3, 0, 0, 3, 0, 0, 0, 0, 0, 0, 0, 0, 1},
		[]byte{0, 0, 0, 0},
		[]byte{0, 0, 0, 2, 0, 0, 0, 0, 0, 0, 1, 2, 0, 3, 0, 9, 0},
	)
	if got := x.p.fold(); !bytes.Equal(got, want) {
		t.Fatalf("P13.3: the plain one: %x, not %x", got, want)
	}
	// The second one's batches, of which nothing was done, fill the journal.
	second := 0
	for ; x.p.store.used() < x.p.half; second++ {
		x.next(1, 258)
	}
	x.next(0, 999)
	at := 4 + len(saved) + 26
	want = slices.Concat(want[:at], []byte{0, 0, byte(second >> 8), byte(second), 0, 0, 0, 0, 0, 0, 1, 2, 0, 3, 0, 0, 0}, want[at+4:])
	if got := tells(x.d); !got.pictured || !bytes.Equal(got.picture, want) || len(got.records) != 1 {
		t.Fatalf("P13.3: %x, not %x", got.picture, want)
	}
}

// TestGreatest fills all that there may be: sixteen parties, each of them answered
// 64 Replies, and 400 events. The picture goes in, and the longest record behind
// it.
func TestGreatest(t *testing.T) {
	c := ledger.Conf{Start: rows(16, 4, 1<<20), Events: 400}
	x := paired(t, c, "the greatest")
	longest := slices.Repeat([]req.Req{lock(1, 1, "g", final)}, 64)
	for k := range 200 / 50 {
		x.next(0, k, longest[:50]...)
	}
	for k := range 200 {
		x.next(1, 9, claim(k, "g"))
	}
	if got := len(x.v.Ledger().Events()); got != 400 {
		t.Fatalf("P12.2: %d events", got)
	}
	none := slices.Repeat([]req.Req{refund(65535)}, 64)
	for party := range 16 {
		x.next(party, 10, none...)
	}
	for gen := x.p.store.gen; x.p.store.gen < gen+4; {
		for party := range 16 {
			x.next(party, 11, longest...)
		}
	}
	x.open()
	if n := len(tells(x.d).picture); sectors(n)+sectors(13+3+64*51) > Need(c)/2 {
		t.Errorf("P13.1: a picture of %d bytes", n)
	}
}

// TestSmallest does the same with the least that there may be.
func TestSmallest(t *testing.T) {
	x := paired(t, ledger.Conf{Start: rows(2, 1, 5), Events: 1}, "the smallest")
	longest := slices.Repeat([]req.Req{lock(1, 1, "g", final)}, 64)
	x.next(0, 1, give(1, 5), give(1, 1))
	for x.p.store.gen < 5 {
		x.next(1, 2, longest...)
		x.next(0, 3, refund(0))
	}
	x.open()
}

// TestSpareSectors: a disk with more sectors than needed has a picture later.
func TestSpareSectors(t *testing.T) {
	for _, more := range []int{1, 2, 3, 500} {
		c := conf(12)
		x := over(t, c, sized(t, Need(c)+more), "spare sectors")
		for x.p.store.gen < 2 {
			x.next(1, 2, give(0, 0))
		}
		x.open()
	}
}

// TestNoGen: where no Gen is left, what does not go in is ErrFull for good, and
// what goes in is handled.
func TestNoGen(t *testing.T) {
	x := crammed(t)
	long := batch(0, lock(1, 1, "s", 90), lock(1, 1, "s", 90), lock(1, 1, "s", 90))
	for range 2 {
		x.refused(12, 0, x.p.last(0)+1, 40, long)
		x.refused(12, 2, x.p.last(2)+1, 40, long)
		x.refused(2, 2, x.p.last(2)+1, 40, long[1:])
		x.refused(0, 0, x.p.last(0), 40, nil)
		if x.v.Down() || x.v.Ledger().Clock() != 11 {
			t.Errorf("P13.2: Down %t, clock %d", x.v.Down(), x.v.Ledger().Clock())
		}
		x.next(2, 0, give(0, 0))
		x.open()
	}
	for _, party := range []int{0, 1, 2} {
		x.refused(12, party, x.p.last(party)+1, 40, batch(0))
	}
	x.open()
	// Power comes first.
	x.fuse(0)
	x.d.Sync()
	x.p.dark = true
	x.refused(13, 0, x.p.last(0)+1, 40, long)
	if !x.v.Down() {
		t.Error("P13.2: not Down")
	}
}

// TestLastGen: the last picture there may be is laid.
func TestLastGen(t *testing.T) {
	x := crammed(t)
	d := sized(t, Need(x.c))
	raw(t, d, 0, frame.Frame{Kind: 1, Gen: topmost - 1, Body: x.p.fold()})
	x = over(t, x.c, d, "the last Gen")
	for x.p.store.gen < topmost {
		x.next(0, 50)
	}
	for {
		_, e := x.handle(1, x.p.last(1)+1, 51, batch(0))
		if e == api.ErrFull {
			break
		}
		if e != api.OK {
			t.Fatalf("P13.2: %d", e)
		}
	}
	x.open()
}
