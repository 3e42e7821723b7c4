package req

import (
	"bytes"
	"slices"
	"sync"
	"testing"
)

// spoil turns b, and its spare room; filled fills a list and its spare room.
func spoil(b []byte) {
	b = b[:cap(b)]
	for i := range b {
		b[i] ^= 0xff
	}
}

func filled[T any](l []T, with T) {
	l = l[:cap(l)]
	for i := range l {
		l[i] = with
	}
}

// fullBatch and fullAnswer have n things of each kind, with room behind them in
// which other things stand.
func fullBatch(n int) Batch {
	var l []Req
	for kind := 1; kind <= 4; kind++ {
		l = append(l, slices.Repeat([]Req{asReq(good(requests, kind))}, n)...)
	}
	room := append(slices.Clone(l), Req{Kind: 9}, Req{Kind: 1})
	return Batch{7, room[:len(l)]}
}

func fullAnswer(n int) Answer {
	var l []Event
	for kind := 1; kind <= 4; kind++ {
		l = append(l, slices.Repeat([]Event{good(events, kind)}, n)...)
	}
	evs := append(slices.Clone(l), Event{Kind: 9}, Event{Kind: 1})
	replies := append(slices.Repeat([]Reply{{5, 6}}, 4*n), Reply{999, 0}, Reply{1, 2})
	return Answer{8, 9, replies[:4*n], evs[:len(l)]}
}

// TestHandedInStays looks at what was handed in, and at what lies behind it.
func TestHandedInStays(t *testing.T) {
	for _, n := range []int{0, 1, 3, 16} {
		b, c, a := fullBatch(n), fullBatch(n), fullAnswer(n)
		room := slices.Clone(b.Reqs[:len(b.Reqs)+2])
		evs := slices.Clone(a.Events[:len(a.Events)+2])
		replies := slices.Clone(a.Replies[:len(a.Replies)+2])
		batches.holds(t, b, "room behind", n)
		answers.holds(t, a, "room behind", n)
		if !SameBatch(b, c) || !SameAnswer(a, fullAnswer(n)) {
			t.Errorf("P11.3: Same of %d", n)
		}
		if !alike(b.Reqs[:len(room)], room) || !alike(a.Events[:len(evs)], evs) || !alike(a.Replies[:len(replies)], replies) {
			t.Errorf("P11.3: what was handed in is changed, or what lies behind it, of %d", n)
		}
	}
}

// TestRefusedStays: what is refused is not changed either.
func TestRefusedStays(t *testing.T) {
	b, a := fullBatch(2), fullAnswer(2)
	for _, seen := range []int{-1, 65536} {
		b.Seen, a.Seen = seen, seen
		batches.holds(t, b, "refused")
		answers.holds(t, a, "refused")
	}
	b, a = fullBatch(2), fullAnswer(2)
	b.Reqs[7].To, a.Events[7].To = 1, 1
	batches.holds(t, b, "refused at its end")
	answers.holds(t, a, "refused at its end")
	if len(b.Reqs[:10]) != 10 || b.Reqs[:10][8] != (Req{Kind: 9}) || a.Events[:10][8] != (Event{Kind: 9}) || a.Replies[:10][8] != (Reply{999, 0}) {
		t.Error("P11.3: what lies behind what is refused is changed")
	}
}

// fillBatch and fillAnswer put something else into all lists, and their spare room.
func fillBatch(b Batch) { filled(b.Reqs, Req{Kind: 8}) }

func fillAnswer(a Answer) {
	filled(a.Replies, Reply{8, 8})
	filled(a.Events, Event{Kind: 8})
}

// grownBatch and grownAnswer append to all lists.
func grownBatch(b Batch) Batch { return Batch{b.Seen, append(b.Reqs, Req{Kind: 7})} }

func grownAnswer(a Answer) Answer {
	return Answer{a.Clock, a.Seen, append(a.Replies, Reply{7, 7}), append(a.Events, Event{Kind: 7})}
}

// TestAnswersAreNew turns what is answered, and what was handed in.
func TestAnswersAreNew(t *testing.T) {
	for _, n := range []int{0, 1, 3, 16} {
		batches.bytesAreNew(t, fullBatch(n), fillBatch)
		answers.bytesAreNew(t, fullAnswer(n), fillAnswer)
		batches.listsAreNew(t, fullBatch(n), fillBatch, grownBatch)
		answers.listsAreNew(t, fullAnswer(n), fillAnswer, grownAnswer)
	}
}

// bytesAreNew encodes x again and again, turns what comes out, and x at last: the
// first bytes stay.
func (c coder[T]) bytesAreNew(t *testing.T, x T, fill func(T)) {
	t.Helper()
	want, _ := c.plain(x)
	kept, _ := c.encode(x)
	for range 3 {
		b, _ := c.encode(x)
		spoil(append(b, 1))
		spoil(b)
		if !bytes.Equal(kept, want) {
			t.Fatalf("%s, P11.3: the bytes of %v are not new", c.promise, x)
		}
		c.holds(t, x, "behind turned bytes")
	}
	fill(x)
	if !bytes.Equal(kept, want) {
		t.Errorf("%s, P11.3: what was handed in is kept in the bytes", c.promise)
	}
}

// listsAreNew decodes the bytes of x again and again, turns what comes out, and
// the bytes at last: the first one stays.
func (c coder[T]) listsAreNew(t *testing.T, x T, fill func(T), grown func(T) T) {
	t.Helper()
	b, _ := c.plain(x)
	kept, _ := c.decode(b)
	for range 3 {
		y, _ := c.decode(b)
		z := grown(y)
		fill(z)
		fill(y)
		if !c.alike(kept, x) {
			t.Fatalf("%s, P11.3: the lists of %v are not new", c.promise, x)
		}
		c.reads(t, b, "behind turned lists")
	}
	spoil(b)
	if !c.alike(kept, x) {
		t.Errorf("%s, P11.3: the bytes of %v are kept", c.promise, x)
	}
}

// TestBehindTheLength: bytes that lie behind the length are neither read nor
// written.
func TestBehindTheLength(t *testing.T) {
	for i, b := range samples(t) {
		for n := range len(b) {
			room := bytes.Clone(b)
			batches.reads(t, room[:n], "behind the length", i, n)
			answers.reads(t, room[:n], "behind the length", i, n)
			if !bytes.Equal(room, b) {
				t.Fatalf("P11.3: sample %d: what lies behind byte %d is changed", i, n)
			}
		}
		room := append(bytes.Clone(b), 0, 0, 0)
		batches.reads(t, room[:len(b)], "zeros behind", i)
		answers.reads(t, room[:len(b)], "zeros behind", i)
	}
}

// TestManyAnswers keeps many answers, and turns each second one: the others stay.
func TestManyAnswers(t *testing.T) {
	batches.many(t, func(i int) Batch { return Batch{i, slices.Repeat([]Req{{Kind: Refund, ID: i}}, i)} }, fillBatch)
	answers.many(t, func(i int) Answer {
		return Answer{i, i, slices.Repeat([]Reply{{9, i}}, i), slices.Repeat([]Event{{Kind: Refund, ID: i}}, i)}
	}, fillAnswer)
}

func (c coder[T]) many(t *testing.T, made func(int) T, fill func(T)) {
	t.Helper()
	var encoded [][]byte
	var decoded []T
	for i := range 64 {
		b, _ := c.encode(made(i))
		x, _ := c.decode(b)
		encoded, decoded = append(encoded, b), append(decoded, x)
	}
	for turn := range 2 {
		for i := turn; i < 64; i += 2 {
			if want, _ := c.plain(made(i)); !bytes.Equal(encoded[i], want) || !c.alike(decoded[i], made(i)) {
				t.Fatalf("%s, P11.3: answer %d is another one now", c.promise, i)
			}
		}
		for i := turn; i < 64; i += 2 {
			spoil(encoded[i])
			fill(decoded[i])
		}
	}
}

// TestAtOnce calls from many places: no call hangs on another one.
func TestAtOnce(t *testing.T) {
	var all sync.WaitGroup
	for i := range 8 {
		all.Go(func() {
			for j := range 50 {
				b := Batch{i, slices.Repeat([]Req{{Kind: Claim, ID: i*50 + j, Secret: long(32)}}, j)}
				a := Answer{Clock: i, Seen: j, Replies: slices.Repeat([]Reply{{1, i}}, j), Events: slices.Repeat([]Event{{Kind: Refund, ID: i}}, j)}
				x, _ := EncodeBatch(b)
				y, _ := EncodeAnswer(a)
				c, _ := DecodeBatch(x)
				d, _ := DecodeAnswer(y)
				if !alikeBatches(b, c) || !alikeAnswers(a, d) {
					t.Errorf("P0.5: place %d, step %d", i, j)
				}
			}
		})
	}
	all.Wait()
}
