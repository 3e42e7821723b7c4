package req

import (
	"bytes"
	"encoding/binary"
	"math"
	"slices"
	"strings"
	"testing"

	"counterfoil/api"
)

// most is the greatest amount, last the greatest tick, by their values.
const (
	most = 4611686018427387904
	last = 1099511627776
)

// fields are all that a thing may have beside its Kind, by a letter each: From,
// To, Asset, aMount, ID, Hash, Deadline, Secret. A thing is a request or an event,
// and stands as an Event: a request has no From.
const fields = "FTAMIHDS"

// requests and events are what each kind has, in the chapter's order.
var (
	requests = map[int]string{1: "TAM", 2: "TAMHD", 3: "IS", 4: "I"}
	events   = map[int]string{1: "FTAM", 2: "FTAMIHD", 3: "IS", 4: "I"}
)

// number is where the number of a letter stands in v, and its greatest; text is
// where a text stands. Each is nil of the other's letters.
func number(v *Event, letter rune) (*int, int) {
	switch letter {
	case 'F':
		return &v.From, 255
	case 'T':
		return &v.To, 255
	case 'A':
		return &v.Asset, 255
	case 'M':
		return &v.Amount, most
	case 'I':
		return &v.ID, 65535
	case 'D':
		return &v.Deadline, last
	}
	return nil, 0
}

func text(v *Event, letter rune) *string {
	switch letter {
	case 'H':
		return &v.Hash
	case 'S':
		return &v.Secret
	}
	return nil
}

// size is how many bytes a number up to greatest has.
func size(greatest int) int {
	switch greatest {
	case 255:
		return 1
	case 65535:
		return 2
	}
	return 8
}

// between tells if n is least to greatest.
func between(n, least, greatest int) bool { return n >= least && n <= greatest }

// bigEndian is n in so many bytes by the library.
func bigEndian(n, size int) []byte {
	return binary.BigEndian.AppendUint64(nil, uint64(n))[8-size:]
}

// plainThing is v in bytes, and false if it has what it must not, or has not what
// it must.
func plainThing(has map[int]string, v Event) ([]byte, bool) {
	own, ok := has[v.Kind]
	b := []byte{byte(v.Kind)}
	for _, letter := range fields {
		own := strings.ContainsRune(own, letter)
		if n, greatest := number(&v, letter); n != nil {
			ok = ok && (own && between(*n, 0, greatest) || *n == 0)
		} else {
			n := len(*text(&v, letter))
			ok = ok && (own && n == 32 || !own && n == 0)
		}
	}
	for _, letter := range own {
		if n, greatest := number(&v, letter); n != nil {
			b = append(b, bigEndian(*n, size(greatest))...)
		} else {
			b = append(b, *text(&v, letter)...)
		}
	}
	return b, ok
}

// source is bytes of which those ahead were read: short, if there were too few.
type source struct {
	b     []byte
	short bool
}

func (s *source) next(n int) []byte {
	if len(s.b) < n {
		s.short, s.b = true, nil
		return make([]byte, n)
	}
	b := s.b[:n]
	s.b = s.b[n:]
	return b
}

// number reads one of 0 to greatest: false, if it is another one.
func (s *source) number(size, greatest int) (int, bool) {
	b := make([]byte, 8-size)
	n := binary.BigEndian.Uint64(append(b, s.next(size)...))
	return int(n), n <= uint64(greatest)
}

// thing reads what plainThing writes.
func (s *source) thing(has map[int]string) (Event, bool) {
	var v Event
	v.Kind = int(s.next(1)[0])
	own, ok := has[v.Kind]
	for _, letter := range own {
		if n, greatest := number(&v, letter); n != nil {
			got, in := s.number(size(greatest), greatest)
			*n, ok = got, ok && in
		} else {
			*text(&v, letter) = string(s.next(32))
		}
	}
	return v, ok
}

// asReq and asEvent turn a thing to a request, without its From, and back.
func asReq(v Event) Req {
	return Req{Kind: v.Kind, To: v.To, Asset: v.Asset, Amount: v.Amount, ID: v.ID, Deadline: v.Deadline, Hash: v.Hash, Secret: v.Secret}
}

func asEvent(q Req) Event {
	return Event{Kind: q.Kind, To: q.To, Asset: q.Asset, Amount: q.Amount, ID: q.ID, Deadline: q.Deadline, Hash: q.Hash, Secret: q.Secret}
}

// plainBatch is b in bytes, and false if there are none, in the chapter's words.
func plainBatch(b Batch) ([]byte, bool) {
	ok := between(b.Seen, 0, 65535) && len(b.Reqs) <= 64
	out := append(bigEndian(b.Seen, 2), byte(len(b.Reqs)))
	for _, q := range b.Reqs {
		x, good := plainThing(requests, asEvent(q))
		out, ok = append(out, x...), ok && good
	}
	return out, ok
}

// plainAnswer is a in bytes, likewise.
func plainAnswer(a Answer) ([]byte, bool) {
	ok := between(a.Clock, 0, last) && between(a.Seen, 0, 65535) && len(a.Replies) <= 64 && len(a.Events) <= 400
	out := append(bigEndian(a.Clock, 8), bigEndian(a.Seen, 2)...)
	out = append(out, byte(len(a.Replies)))
	for _, r := range a.Replies {
		ok = ok && between(int(r.Code), 0, 255) && between(r.ID, 0, 65535)
		out = append(append(out, byte(r.Code)), bigEndian(r.ID, 2)...)
	}
	out = append(out, bigEndian(len(a.Events), 2)...)
	for _, v := range a.Events {
		x, good := plainThing(events, v)
		out, ok = append(out, x...), ok && good
	}
	return out, ok
}

// readBatch is the batch of which b are the bytes, and false if there is none.
func readBatch(b []byte) (Batch, bool) {
	s := &source{b: b}
	var out Batch
	out.Seen, _ = s.number(2, 65535)
	n, ok := s.number(1, 64)
	for ; n > 0 && ok && !s.short; n-- {
		v, good := s.thing(requests)
		out.Reqs, ok = append(out.Reqs, asReq(v)), good
	}
	if !ok || s.short || len(s.b) > 0 {
		return Batch{}, false
	}
	return out, true
}

// readAnswer is the answer of which b are the bytes, likewise.
func readAnswer(b []byte) (Answer, bool) {
	s := &source{b: b}
	var out Answer
	clock, ok := s.number(8, last)
	out.Clock = clock
	out.Seen, _ = s.number(2, 65535)
	n, in := s.number(1, 64)
	ok = ok && in
	for ; n > 0 && ok && !s.short; n-- {
		code, _ := s.number(1, 255)
		id, _ := s.number(2, 65535)
		out.Replies = append(out.Replies, Reply{api.Errno(code), id})
	}
	n, in = s.number(2, 400)
	ok = ok && in
	for ; n > 0 && ok && !s.short; n-- {
		v, good := s.thing(events)
		out.Events, ok = append(out.Events, v), good
	}
	if !ok || s.short || len(s.b) > 0 {
		return Answer{}, false
	}
	return out, true
}

// alikeBatches and alikeAnswers hold two against one another, field by field.
func alikeBatches(a, b Batch) bool { return a.Seen == b.Seen && alike(a.Reqs, b.Reqs) }

func alikeAnswers(a, b Answer) bool {
	return a.Clock == b.Clock && a.Seen == b.Seen && alike(a.Replies, b.Replies) && alike(a.Events, b.Events)
}

func alike[T comparable](a, b []T) bool {
	if len(a) != len(b) {
		return false
	}
	for i := range a {
		if a[i] != b[i] {
			return false
		}
	}
	return true
}

// coder is the calls for batches, or for answers, and the plain ones beside them.
type coder[T any] struct {
	promise       string
	encode        func(T) ([]byte, api.Errno)
	decode        func([]byte) (T, api.Errno)
	same          func(a, b T) bool
	plain         func(T) ([]byte, bool)
	read          func([]byte) (T, bool)
	alike         func(a, b T) bool
	otherInMemory func(T) T
}

var (
	batches = coder[Batch]{"P11.1", EncodeBatch, DecodeBatch, SameBatch, plainBatch, readBatch, alikeBatches, otherBatch}
	answers = coder[Answer]{"P11.2", EncodeAnswer, DecodeAnswer, SameAnswer, plainAnswer, readAnswer, alikeAnswers, otherAnswer}
)

// holds encodes x, twice, and decodes what comes out: all as it is plainly.
func (c coder[T]) holds(t *testing.T, x T, what string, at ...any) {
	t.Helper()
	was := c.otherInMemory(x)
	want, ok := c.plain(x)
	for range 2 {
		got, e := c.encode(x)
		if !ok {
			if e != api.ErrRange || len(got) > 0 {
				t.Fatalf("%s: %s %v: %d, %x", c.promise, what, at, e, got)
			}
			continue
		}
		if e != api.OK || !bytes.Equal(got, want) {
			t.Fatalf("%s: %s %v: %d, %x, not %x", c.promise, what, at, e, got, want)
		}
		if y, e := c.decode(got); e != api.OK || !c.alike(y, x) || !c.same(y, x) {
			t.Fatalf("P11.4: %s %v: %d, %v", what, at, e, y)
		}
	}
	if !c.alike(x, was) {
		t.Fatalf("P11.3: %s %v: it is changed", what, at)
	}
}

// reads decodes b, twice, and encodes what comes out: all as it is plainly.
func (c coder[T]) reads(t *testing.T, b []byte, what string, at ...any) {
	t.Helper()
	was := bytes.Clone(b)
	want, ok := c.read(b)
	for range 2 {
		got, e := c.decode(b)
		if ok != (e == api.OK) || !ok && e != api.ErrForm || !c.alike(got, want) {
			t.Fatalf("%s: %s %v: %x: %d, %v, not %v", c.promise, what, at, b, e, got, want)
		}
		if again, e := c.encode(got); ok && (e != api.OK || !bytes.Equal(again, was)) {
			t.Fatalf("P11.4: %s %v: %x: %d, %x", what, at, b, e, again)
		}
	}
	if !bytes.Equal(b, was) {
		t.Fatalf("P11.3: %s %v: the bytes are changed", what, at)
	}
}

// long is n bytes of which no two neighbours are alike, some of them no UTF-8.
func long(n int) string {
	b := make([]byte, n)
	for i := range b {
		b[i] = byte(251 - 7*i)
	}
	return string(b)
}

// good is a thing of kind, with a From if it is an event.
func good(has map[int]string, kind int) Event {
	full := Event{From: 1, To: 2, Asset: 3, Amount: 0x0405060708090a0b, ID: 0x0c0d, Deadline: 0x0e0f1011, Hash: long(32), Secret: strings.ToUpper(strings.Repeat("secret..", 4))}
	return only(full, kind, has[kind])
}

// only is of v what the letters name, and a kind.
func only(v Event, kind int, letters string) Event {
	out := Event{Kind: kind}
	for _, letter := range letters {
		if n, _ := number(&out, letter); n != nil {
			from, _ := number(&v, letter)
			*n = *from
		} else {
			*text(&out, letter) = *text(&v, letter)
		}
	}
	return out
}

// kinds are all kinds, and numbers that are none.
func kinds() []int {
	return []int{1, 2, 3, 4, 0, 5, 6, 7, 127, 128, 255, 256, 257, 258, 259, 260, 1 << 32, 1<<32 + 1, 1<<62 + 4, math.MaxInt, -1, -2, -3, -4, -252, -255, -256, math.MinInt, math.MinInt + 1}
}

// edges are the numbers on either side of each bound that the chapter names, and
// those that wrap to one within.
func edges() []int {
	l := []int{7, 127, 128, 32767, 32768, 1 << 16, 1 << 31, 1 << 32, 1<<32 + 1, 1 << 48, 1 << 56, 3 << 60, math.MaxInt - 1, math.MaxInt, -2, -128, -255, -256, -257, -65535, -65536, -1 << 32, -last, -most, math.MinInt, math.MinInt + 1}
	for _, bound := range []int{0, 255, 65535, most, last} {
		l = append(l, bound-1, bound, bound+1, bound+2)
	}
	slices.Sort(l)
	return slices.Compact(l)
}

// texts are of no byte, 32, and on either side of that, and far from it.
func texts() []string {
	l := []string{"", strings.Repeat("\x00", 32), strings.Repeat("\xff", 32), strings.Repeat("é", 32), "0"}
	for _, n := range []int{1, 16, 30, 31, 32, 33, 34, 64, 255, 256, 288, 65536 + 32} {
		l = append(l, long(n))
	}
	return l
}

// put answers v with what each value of the letter's kind makes of it.
func put(v Event, letter rune) []Event {
	var l []Event
	if n, _ := number(&v, letter); n != nil {
		for _, x := range edges() {
			*n = x
			l = append(l, v)
		}
		return l
	}
	s := text(&v, letter)
	for _, x := range texts() {
		*s = x
		l = append(l, v)
	}
	return l
}
