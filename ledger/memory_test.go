package ledger

import (
	"bytes"
	"slices"
	"strings"
	"sync"
	"testing"
	"unsafe"

	"counterfoil/api"
	"counterfoil/req"
	"counterfoil/sha"
)

// spoil turns all bytes of b, and of its spare room; filled puts with into a list
// and its spare room.
func spoil(b []byte) {
	b = b[:cap(b)]
	for i := range b {
		b[i] ^= 0xff
	}
}

func filled[T any](l []T, with T) {
	l = l[:cap(l)]
	for i := range l {
		l[i] = with
	}
}

// roomy is conf(events) with rows and numbers behind the length of each list.
func roomy(events int) Conf {
	c := conf(events)
	for i, row := range c.Start {
		c.Start[i] = append(slices.Clone(row), -1, -2)[:len(row)]
	}
	c.Start = append(c.Start, []int{-3}, nil)[:len(c.Start)]
	return c
}

// isRoomy tells if c is as roomy made it.
func isRoomy(c Conf) bool {
	for i, row := range conf(0).Start {
		if !slices.Equal(c.Start[i][:len(row)+2], append(row, -1, -2)) {
			return false
		}
	}
	behind := c.Start[:len(c.Start)+2]
	return len(c.Start) == 3 && slices.Equal(behind[3], []int{-3}) && behind[4] == nil
}

// TestConfStays: a Conf is neither changed nor kept, nor what lies behind its
// lists.
func TestConfStays(t *testing.T) {
	b := saved(t, scene(t, 12).l)
	for i, made := range []func(Conf) (*Ledger, api.Errno){
		func(c Conf) (*Ledger, api.Errno) { return New(table, c) },
		func(c Conf) (*Ledger, api.Errno) { return Load(table, c, b) },
	} {
		c := roomy(12)
		if e := Check(c); e != api.OK || !isRoomy(c) {
			t.Fatalf("P12.5: Check: %d, %v", e, c)
		}
		l, e := made(c)
		if e != api.OK || !isRoomy(c) {
			t.Fatalf("P12.5: %d: %d, %v", i, e, c)
		}
		x := pair{l, begun(c)}
		if i == 1 {
			x.p, _ = load(c, b)
		}
		x.apply(t, asks(0, 0, give(1, 0, 3), refund(1), lock(2, 1, 1, "s", 999)))
		if !isRoomy(c) {
			t.Fatalf("P12.5: %d: a Conf is changed: %v", i, c)
		}
		for _, row := range c.Start {
			filled(row, 77)
		}
		filled(c.Start, nil)
		x.holds(t, "P12.5: a Conf that is written over")
	}
}

// TestBatchStays: a Batch is neither changed nor kept, nor what lies behind it.
func TestBatchStays(t *testing.T) {
	for n := range 70 {
		x := scene(t, 400)
		l := slices.Repeat([]req.Req{give(1, 0, 1), lock(1, 0, 1, "s", 99), {}, refund(1), give(0, 0, 5), claim(0, "s")}, 20)
		behind := slices.Clone(l)
		b := req.Batch{Seen: 0, Reqs: behind[:n]}
		a := x.apply(t, step{0, 0, b})
		if !slices.Equal(behind, l) || b.Seen != 0 || len(b.Reqs) != n || len(a.Replies) != min(n, 64) {
			t.Fatalf("P12.5: a Batch of %d is changed: %v", n, behind)
		}
		kept := req.Answer{Clock: a.Clock, Seen: a.Seen, Replies: slices.Clone(a.Replies), Events: slices.Clone(a.Events)}
		filled(behind, req.Req{Kind: 9})
		x.holds(t, "P12.5: a Batch that is written over")
		if !alike(a, kept) {
			t.Fatalf("P12.5: an Answer is the Batch's: %v", a)
		}
	}
}

// inside tells if the bytes of s lie in those of whole.
func inside(s, whole string) bool {
	at, from := uintptr(unsafe.Pointer(unsafe.StringData(s))), uintptr(unsafe.Pointer(unsafe.StringData(whole)))
	return at >= from && at < from+uintptr(len(whole))
}

// TestTextsAreNotKept: a Hash and a Secret may be pieces of long texts, which are
// not kept for them.
func TestTextsAreNotKept(t *testing.T) {
	x := made(t, conf(400))
	long := strings.Repeat("s", 32) + hashed(secret("s")) + strings.Repeat("-", 1000)
	x.plays(t,
		asks(0, 0, req.Req{Kind: 2, To: 1, Amount: 1, Deadline: 9, Hash: long[32:64]}),
		asks(1, 0, req.Req{Kind: 3, ID: 0, Secret: long[:32]}))
	for _, v := range x.l.Events() {
		if inside(v.Hash, long) || inside(v.Secret, long) {
			t.Errorf("P12.5: what was handed in is kept: %v", v)
		}
	}
	v, _ := x.l.Escrow(0)
	if inside(v.Hash, long) || inside(v.Secret, long) {
		t.Errorf("P12.5: what was handed in is kept: %v", v)
	}
}

// TestAnswersAreNew: what is written into an answer, or appended to it, no other
// one shows, and no ledger.
func TestAnswersAreNew(t *testing.T) {
	for n := range 20 {
		x := scene(t, 400)
		x.l.Apply(0, 0, req.Batch{Reqs: slices.Repeat([]req.Req{give(1, 0, 1)}, n)})
		x.p.apply(0, 0, req.Batch{Reqs: slices.Repeat([]req.Req{give(1, 0, 1)}, n)})
		kept, keptEvents, keptBytes := x.l.Apply(0, 0, req.Batch{Seen: 2, Reqs: []req.Req{{}, {}}}), x.l.Events(), saved(t, x.l)
		for range 3 {
			a, events, b := x.l.Apply(0, 0, req.Batch{Seen: 2, Reqs: []req.Req{{}, {}}}), x.l.Events(), saved(t, x.l)
			_, _, _ = append(events, req.Event{Kind: 7}), append(b, 7), append(a.Events, req.Event{Kind: 7})
			_ = append(a.Replies, req.Reply{Code: 7})
			filled(a.Replies, req.Reply{Code: 8, ID: 8})
			filled(a.Events, req.Event{Kind: 8})
			filled(events, req.Event{Kind: 8})
			spoil(b)
			x.holds(t, "P12.5: answers that are written over")
		}
		if !slices.Equal(keptEvents, x.p.events) || !bytes.Equal(keptBytes, x.p.save()) || !slices.Equal(kept.Events, x.p.events[2:]) || !slices.Equal(kept.Replies, []req.Reply{{Code: 1}, {Code: 1}}) {
			t.Fatalf("P12.5: an answer of before is another one now, of %d", n)
		}
		// What is done later does not come to be seen in it either.
		x.plays(t, asks(0, 0, refund(1)), asks(1, 0, claim(0, "s")))
		if len(keptEvents) != n+6 || slices.ContainsFunc(keptEvents[:cap(keptEvents)][n+6:], func(v req.Event) bool { return v.Kind == 3 || v.Kind == 4 }) {
			t.Fatalf("P12.5: later events stand in an answer of before: %v", keptEvents[:cap(keptEvents)])
		}
	}
}

// TestBytesAreNotKept: bytes that are loaded are neither changed nor kept, nor
// what lies behind them.
func TestBytesAreNotKept(t *testing.T) {
	for i, x := range samples(t) {
		b := saved(t, x.l)
		room := append(bytes.Clone(b), 1, 2, 3)
		y, ok := loads(t, conf(12), room[:len(b)], i)
		if !ok || !bytes.Equal(room, append(bytes.Clone(b), 1, 2, 3)) {
			t.Fatalf("P12.5: sample %d: %t, %v", i, ok, room)
		}
		spoil(room)
		y.holds(t, "P12.5: bytes that are written over")
		for n := range b {
			room := bytes.Clone(b)
			if _, ok := loads(t, conf(12), room[:n], i, n); ok || !bytes.Equal(room, b) {
				t.Fatalf("P12.5: sample %d: bytes behind byte %d: %t", i, n, ok)
			}
		}
	}
}

// TestTwoLedgers: two of one Conf and one Table know nothing of one another.
func TestTwoLedgers(t *testing.T) {
	c := conf(12)
	x, y := made(t, c), made(t, c)
	x.plays(t, asks(0, 5, give(1, 0, 1), lock(1, 0, 2, "s", 9)))
	y.holds(t, "P12.5: the other one")
	y.plays(t, asks(1, 3, lock(0, 0, 50, "s", 4)))
	x.holds(t, "P12.5: the one")
	z, _ := loads(t, c, saved(t, x.l))
	z.plays(t, asks(1, 8, claim(0, "s")))
	x.holds(t, "P12.5: the one that was saved")
	x.plays(t, asks(0, 9, refund(0)))
	z.holds(t, "P12.5: the one that was loaded")
	y.plays(t, asks(1, 4, refund(0)))
	for _, w := range []pair{x, y, z} {
		w.holds(t, "P12.5: three ledgers")
	}
}

// TestAtOnce asks ledgers of one new Table, each from a place of its own.
func TestAtOnce(t *testing.T) {
	var all sync.WaitGroup
	fresh, c := sha.NewTable(), conf(400)
	for i := range 8 {
		all.Go(func() {
			l, _ := New(fresh, c)
			p := begun(c)
			for j := range 30 {
				for party, reqs := range [][]req.Req{{lock(1, 0, 1, "s", 99), give(2, 1, i)}, {claim(j, "s"), refund(j)}} {
					b := req.Batch{Seen: j, Reqs: reqs}
					if !alike(l.Apply(party, j, b), p.apply(party, j, b)) {
						t.Errorf("P0.5: place %d, step %d", i, j)
					}
				}
			}
			b, e := l.Save()
			k, f := Load(fresh, c, b)
			if e != api.OK || f != api.OK || k == nil || !bytes.Equal(b, p.save()) {
				t.Errorf("P0.5: place %d: %d, %d", i, e, f)
			}
		})
	}
	all.Wait()
}
