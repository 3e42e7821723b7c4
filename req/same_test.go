package req

import (
	"math"
	"slices"
	"strings"
	"testing"

	"counterfoil/api"
)

// variants are things that are unlike one another, each of them in one field
// alone unlike the first one of its kind: some of them are none.
func variants() []Event {
	l := []Event{{}}
	for _, kind := range []int{1, 2, 3, 4, 5, -1, 257, math.MaxInt} {
		one := good(events, kind)
		l = append(l, one)
		for _, letter := range fields {
			v := one
			if n, _ := number(&v, letter); n != nil {
				was := *n
				for _, x := range []int{was + 1, was - 1, was + 256, was + 1<<16, was + 1<<32, -1 - was, math.MinInt, was ^ 1<<62} {
					*n = x
					l = append(l, v)
				}
				continue
			}
			s := text(&v, letter)
			was := *s
			for _, x := range []string{was + "x", was + "\x00", "x" + was, long(33), strings.Repeat("\x00", 32), strings.ToLower(was) + "y", was[:len(was)/2] + "z"} {
				*s = x
				l = append(l, v)
			}
			if was != "" {
				for _, at := range []int{0, 15, 31} {
					b := []byte(was)
					b[at] ^= 1
					*s = string(b)
					l = append(l, v)
				}
			}
		}
	}
	var unlike []Event
	for _, v := range l {
		if !slices.Contains(unlike, v) {
			unlike = append(unlike, v)
		}
	}
	return unlike
}

// someBatches are batches, no two alike.
func someBatches() []Batch {
	l := []Batch{{}, {Seen: 1}, {Seen: 256}, {Seen: 65536}, {Seen: -1}, {Seen: math.MaxInt}, {Seen: math.MinInt}}
	var reqs []Req
	for _, v := range variants() {
		if q := asReq(v); !slices.Contains(reqs, q) {
			reqs = append(reqs, q)
			l = append(l, Batch{Reqs: []Req{q}}, Batch{Seen: 1, Reqs: []Req{q}}, Batch{Reqs: []Req{{Kind: 1}, {Kind: 1}, q}})
		}
	}
	one, two := asReq(good(requests, 1)), asReq(good(requests, 2))
	for n := 2; n < 70; n++ {
		l = append(l, Batch{Reqs: slices.Repeat([]Req{one}, n)}, Batch{Reqs: append(slices.Repeat([]Req{one}, n), two)}, Batch{Reqs: append([]Req{two}, slices.Repeat([]Req{one}, n)...)})
	}
	return append(l, Batch{Reqs: make([]Req, 2)}, Batch{Reqs: make([]Req, 300)}, Batch{Reqs: []Req{one, two}}, Batch{Reqs: []Req{two, one}})
}

// someAnswers are answers, no two alike.
func someAnswers() []Answer {
	var l []Answer
	for _, n := range []int{1, 2, 256, 257, 65536, 1 << 32, last, last + 1, -1, math.MaxInt, math.MinInt} {
		l = append(l, Answer{Clock: n}, Answer{Seen: n}, Answer{Clock: n, Seen: n}, Answer{Replies: []Reply{{api.Errno(n), 0}}}, Answer{Replies: []Reply{{0, n}}}, Answer{Replies: []Reply{{1, 1}, {2, 2}, {0, n}}}, Answer{Replies: []Reply{{api.Errno(n), 0}, {1, 1}}})
	}
	for _, v := range variants() {
		l = append(l, Answer{Events: []Event{v}}, Answer{Clock: 1, Seen: 2, Replies: []Reply{{3, 4}}, Events: []Event{v}}, Answer{Events: []Event{{Kind: 1}, {Kind: 1}, v}})
	}
	one, two := good(events, 1), good(events, 2)
	for n := 2; n < 70; n++ {
		l = append(l, Answer{Replies: make([]Reply, n)}, Answer{Events: slices.Repeat([]Event{one}, n)}, Answer{Events: append(slices.Repeat([]Event{one}, n), two)}, Answer{Replies: append(make([]Reply, n), Reply{1, 2})})
	}
	return append(l, Answer{}, Answer{Replies: make([]Reply, 1)}, Answer{Replies: make([]Reply, 1), Events: make([]Event, 1)}, Answer{Events: make([]Event, 2)}, Answer{Replies: []Reply{{1, 2}, {3, 4}}}, Answer{Replies: []Reply{{3, 4}, {1, 2}}}, Answer{Replies: []Reply{{1, 4}, {3, 2}}})
}

// otherBatch and otherAnswer are it in memory of its own, texts too, with room
// behind each list.
func otherBatch(b Batch) Batch {
	l := make([]Req, 0, len(b.Reqs)+2)
	for _, q := range b.Reqs {
		q.Hash, q.Secret = strings.Clone(q.Hash), strings.Clone(q.Secret)
		l = append(l, q)
	}
	return Batch{b.Seen, l}
}

func otherAnswer(a Answer) Answer {
	l := make([]Event, 0, len(a.Events)+2)
	for _, v := range a.Events {
		v.Hash, v.Secret = strings.Clone(v.Hash), strings.Clone(v.Secret)
		l = append(l, v)
	}
	return Answer{a.Clock, a.Seen, append(make([]Reply, 0, len(a.Replies)+2), a.Replies...), l}
}

// TestSame holds each batch against each, and each answer.
func TestSame(t *testing.T) {
	batches.differ(t, someBatches())
	answers.differ(t, someAnswers())
}

// differ holds each of l against each: it is the same as itself alone.
func (c coder[T]) differ(t *testing.T, l []T) {
	t.Helper()
	for i, x := range l {
		if other := c.otherInMemory(x); !c.same(x, other) || !c.same(other, x) {
			t.Fatalf("P11.2: %v is not the same as itself", x)
		}
		for j, y := range l {
			if c.same(x, y) != (i == j) {
				t.Fatalf("P11.2: %d, %d: %v and %v: %t", i, j, x, y, i != j)
			}
		}
	}
}

// TestSameNothing: nil and the empty list are the same.
func TestSameNothing(t *testing.T) {
	room := make([]Req, 3)
	batches.agree(t, Batch{Seen: 4}, Batch{4, []Req{}}, Batch{4, room[:0]}, Batch{4, room[3:]})
	answers.agree(t, Answer{}, Answer{Replies: []Reply{}}, Answer{Events: []Event{}}, Answer{Replies: make([]Reply, 2)[:0], Events: make([]Event, 2)[:0]})
}

// agree holds each of l against each: all are the same.
func (c coder[T]) agree(t *testing.T, l ...T) {
	t.Helper()
	for _, x := range l {
		for _, y := range l {
			if !c.same(x, y) {
				t.Errorf("P0.4: %v and %v", x, y)
			}
		}
	}
}
