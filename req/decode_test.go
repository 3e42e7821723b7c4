package req

import (
	"bytes"
	"encoding/binary"
	"math/rand"
	"slices"
	"testing"
)

// samples are bytes of batches and of answers: each kind alone, and all of them.
func samples(t *testing.T) [][]byte {
	t.Helper()
	var l [][]byte
	var reqs []Req
	var evs []Event
	for kind := 1; kind <= 4; kind++ {
		q, v := asReq(good(requests, kind)), good(events, kind)
		reqs, evs = append(reqs, q), append(evs, v)
		b, _ := plainBatch(Batch{258, []Req{q}})
		a, _ := plainAnswer(Answer{259, 260, []Reply{{7, 8}}, []Event{v}})
		l = append(l, b, a)
	}
	b, ok := plainBatch(Batch{0, slices.Concat(reqs, reqs)})
	a, okA := plainAnswer(Answer{last, 65535, []Reply{{0, 1}, {255, 65535}, {3, 4}}, slices.Concat(evs, evs)})
	if !ok || !okA {
		t.Fatal("plain: a sample is none")
	}
	c, _ := plainAnswer(Answer{1, 2, []Reply{{3, 4}}, nil})
	return append(l, b, a, c, make([]byte, 3), make([]byte, 13))
}

// reads decodes b as a batch and as an answer.
func reads(t *testing.T, b []byte, what string, at ...any) {
	t.Helper()
	batches.reads(t, b, what, at...)
	answers.reads(t, b, what, at...)
}

// TestCut: bytes that are cut at any place are none.
func TestCut(t *testing.T) {
	for i, b := range samples(t) {
		for n := range len(b) + 1 {
			reads(t, b[:n], "cut", i, n)
			reads(t, b[n:], "cut ahead", i, n)
			if n < len(b) {
				x, e := DecodeBatch(b[:n])
				y, f := DecodeAnswer(b[:n])
				_, batch := readBatch(b)
				if batch && e == 0 || !batch && f == 0 || len(x.Reqs)+len(y.Replies)+len(y.Events) > 0 {
					t.Errorf("P11.1, P11.2: sample %d, cut at %d, is one", i, n)
				}
			}
		}
	}
	reads(t, nil, "nil")
	reads(t, []byte{}, "empty")
}

// TestGoingOn: bytes behind the end make it none.
func TestGoingOn(t *testing.T) {
	all := samples(t)
	for i, b := range all {
		for _, tail := range append(all, []byte{0}, []byte{1}, []byte{255}, []byte{0, 0}, make([]byte, 70000)) {
			reads(t, slices.Concat(b, tail), "going on", i, len(tail))
		}
	}
}

// TestTurned: each byte turned to each other one, left out, and put in.
func TestTurned(t *testing.T) {
	for i, b := range samples(t) {
		for at := range b {
			for c := range 256 {
				x := bytes.Clone(b)
				x[at] = byte(c)
				reads(t, x, "turned", i, at, c)
			}
			reads(t, slices.Delete(bytes.Clone(b), at, at+1), "left out", i, at)
			for _, c := range []byte{0, 1, 4, 255} {
				reads(t, slices.Insert(bytes.Clone(b), at, c), "put in", i, at)
			}
		}
	}
}

// eights are numbers of eight bytes on either side of the bounds.
func eights() []uint64 {
	var l []uint64
	for _, bound := range []uint64{0, 1 << 16, 1 << 32, last, 1<<41 + last, 1 << 48, 1 << 61, most, 1 << 63, 1<<63 + 1<<40, 1<<63 + most} {
		l = append(l, bound-2, bound-1, bound, bound+1, bound+2)
	}
	return l
}

// TestEights: a Clock, an Amount and a Deadline out of their bounds.
func TestEights(t *testing.T) {
	h := []byte(long(32))
	for _, n := range eights() {
		x := binary.BigEndian.AppendUint64(nil, n)
		tick := n <= last
		for i, c := range []struct {
			b    []byte
			good bool
		}{
			{slices.Concat([]byte{0, 1, 1, 1, 2, 3}, x), n <= most},
			{slices.Concat([]byte{0, 1, 1, 2, 2, 3}, x, h, make([]byte, 8)), n <= most},
			{slices.Concat([]byte{0, 1, 1, 2, 2, 3}, make([]byte, 8), h, x), tick},
			{slices.Concat([]byte{0, 1, 2, 2, 2, 3}, make([]byte, 8), h, x, []byte{4, 0, 1}), tick},
			{slices.Concat(x, make([]byte, 5)), tick},
			{slices.Concat(x, []byte{0, 1, 0, 0, 1, 4, 0, 2}), tick},
			{slices.Concat(make([]byte, 12), []byte{1, 1, 9, 2, 3}, x), n <= most},
			{slices.Concat(make([]byte, 12), []byte{1, 2, 9, 2, 3}, x, []byte{6, 7}, h, make([]byte, 8)), n <= most},
			{slices.Concat(make([]byte, 12), []byte{1, 2, 9, 2, 3}, make([]byte, 8), []byte{6, 7}, h, x), tick},
		} {
			reads(t, c.b, "eight bytes", i, n)
			_, e := DecodeBatch(c.b)
			_, f := DecodeAnswer(c.b)
			if c.good != (e == 0 || f == 0) {
				t.Errorf("P11.1, P11.2: case %d of %d: %d, %d", i, n, e, f)
			}
		}
	}
}

// TestKinds: a thing of a kind that is none, with what another kind has behind it.
func TestKinds(t *testing.T) {
	for kind := range 256 {
		for n := range 80 {
			reads(t, append([]byte{0, 0, 1, byte(kind)}, make([]byte, n)...), "kind", kind, n)
			reads(t, append(append(make([]byte, 12), 1, byte(kind)), make([]byte, n)...), "kind", kind, n)
		}
	}
}

// TestCounts: counts up to the greatest that go into their bytes, with so many
// things behind them, one fewer and one more.
func TestCounts(t *testing.T) {
	refund := []byte{4, 0, 1}
	counted := func(head []byte, n int, tail ...byte) {
		for _, m := range []int{n - 1, n, n + 1} {
			b := slices.Concat(head, bytes.Repeat(refund, max(m, 0)), tail)
			reads(t, b, "counted", len(head), n, m)
		}
	}
	for n := range 256 {
		counted([]byte{0, 0, byte(n)}, n)
		counted(append(make([]byte, 10), byte(n)), n, 0, 0)
		counted(append(make([]byte, 10), byte(n)), n, 0, 1, 4, 0, 0)
	}
	for _, n := range []int{0, 1, 2, 64, 65, 255, 256, 257, 399, 400, 401, 402, 511, 512, 656, 32768, 65535} {
		counted(append(make([]byte, 11), byte(n>>8), byte(n)), n)
		counted(append(make([]byte, 10), 1, 5, 6, 7, byte(n>>8), byte(n)), n)
		reads(t, append(make([]byte, 11), byte(n>>8), byte(n)), "nothing behind", n)
	}
}

// TestChance decodes bytes by chance: small ones, of which many are some, and
// samples with some bytes turned.
func TestChance(t *testing.T) {
	r := rand.New(rand.NewSource(4))
	all := samples(t)
	for i := range 40000 {
		b := make([]byte, r.Intn(70))
		for j := range b {
			b[j] = byte(r.Intn(5))
		}
		reads(t, b, "small", i)
		b = bytes.Clone(all[r.Intn(len(all))])
		for range 1 + r.Intn(4) {
			b[r.Intn(len(b))] = byte(r.Intn(256) >> r.Intn(8))
		}
		reads(t, b, "turned here and there", i)
	}
}

// TestEachTextIsOneThings: unlike batches have unlike bytes, and unlike answers.
func TestEachTextIsOneThings(t *testing.T) {
	batches.unlike(t, someBatches())
	answers.unlike(t, someAnswers())
}

// unlike encodes all of l, no two of which are alike.
func (c coder[T]) unlike(t *testing.T, l []T) {
	t.Helper()
	whose := map[string]T{}
	for _, x := range l {
		b, e := c.encode(x)
		if e != 0 {
			continue
		}
		if other, ok := whose[string(b)]; ok {
			t.Errorf("P11.4: %v and %v have the same bytes", other, x)
		}
		whose[string(b)] = x
	}
	if len(whose) < 50 {
		t.Errorf("plain: %d with bytes are too few", len(whose))
	}
}
