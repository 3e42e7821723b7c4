package req

import (
	"bytes"
	"math"
	"math/rand"
	"slices"
	"strings"
	"testing"

	"counterfoil/api"
)

// TestLimits holds the limits by their values: the other tests lean on these.
func TestLimits(t *testing.T) {
	if api.MaxReqs != 64 || api.MaxEvents != 400 || api.HashSize != 32 || api.MaxTick != last || api.MaxAmount != most || api.OK != 0 || api.ErrRange != 1 || api.ErrForm != 2 {
		t.Error("the limits or the numbers of api are others")
	}
	if Transfer != 1 || Lock != 2 || Claim != 3 || Refund != 4 {
		t.Error("the kinds are others")
	}
}

// TestWritten holds some bytes as they are read off the chapter.
func TestWritten(t *testing.T) {
	h, s := strings.Repeat("h", 32), strings.Repeat("s", 32)
	for i, c := range []struct {
		q    Req
		want string
	}{
		{Req{Kind: Transfer, To: 1, Asset: 2, Amount: 3}, "\x01\x01\x02\x00\x00\x00\x00\x00\x00\x00\x03"},
		{Req{Kind: Transfer, To: 255, Asset: 254, Amount: most}, "\x01\xff\xfe\x40\x00\x00\x00\x00\x00\x00\x00"},
		{Req{Kind: Transfer}, "\x01\x00\x00\x00\x00\x00\x00\x00\x00\x00\x00"},
		{Req{Kind: Lock, To: 4, Asset: 5, Amount: 0x0102030405060708, Hash: h, Deadline: 0xa0b0c0d0e}, "\x02\x04\x05\x01\x02\x03\x04\x05\x06\x07\x08" + h + "\x00\x00\x00\x0a\x0b\x0c\x0d\x0e"},
		{Req{Kind: Claim, ID: 258, Secret: s}, "\x03\x01\x02" + s},
		{Req{Kind: Claim, ID: 65535, Secret: h}, "\x03\xff\xff" + h},
		{Req{Kind: Refund, ID: 259}, "\x04\x01\x03"},
		{Req{Kind: Refund}, "\x04\x00\x00"},
	} {
		if b, e := EncodeBatch(Batch{Seen: 513, Reqs: []Req{c.q}}); e != api.OK || string(b) != "\x02\x01\x01"+c.want {
			t.Errorf("P11.1: request %d: %d, %x", i, e, b)
		}
	}
	for i, c := range []struct {
		v    Event
		want string
	}{
		{Event{Kind: Transfer, From: 9, To: 1, Asset: 2, Amount: 3}, "\x01\x09\x01\x02\x00\x00\x00\x00\x00\x00\x00\x03"},
		{Event{Kind: Transfer}, "\x01\x00\x00\x00\x00\x00\x00\x00\x00\x00\x00\x00"},
		{Event{Kind: Lock, From: 3, To: 4, Asset: 5, Amount: 0x0102030405060708, ID: 0x1112, Hash: h, Deadline: last}, "\x02\x03\x04\x05\x01\x02\x03\x04\x05\x06\x07\x08\x11\x12" + h + "\x00\x00\x01\x00\x00\x00\x00\x00"},
		{Event{Kind: Claim, ID: 258, Secret: s}, "\x03\x01\x02" + s},
		{Event{Kind: Refund, ID: 65534}, "\x04\xff\xfe"},
	} {
		a := Answer{Clock: 0xa0b0c0d0e, Seen: 513, Replies: []Reply{{Code: 7, ID: 258}, {Code: 255, ID: 65535}}, Events: []Event{c.v}}
		want := "\x00\x00\x00\x0a\x0b\x0c\x0d\x0e\x02\x01\x02\x07\x01\x02\xff\xff\xff\x00\x01" + c.want
		if b, e := EncodeAnswer(a); e != api.OK || string(b) != want {
			t.Errorf("P11.2: event %d: %d, %x", i, e, b)
		}
	}
}

// TestNothing: an empty batch is three bytes 0, an empty answer thirteen.
func TestNothing(t *testing.T) {
	for i, b := range []Batch{{}, {Reqs: []Req{}}, {Reqs: make([]Req, 3)[:0]}} {
		if c, e := EncodeBatch(b); e != api.OK || !bytes.Equal(c, make([]byte, 3)) {
			t.Errorf("P11.1: nothing %d: %d, %x", i, e, c)
		}
	}
	if b, e := DecodeBatch(make([]byte, 3)); e != api.OK || b.Seen != 0 || len(b.Reqs) > 0 {
		t.Errorf("P11.1: nothing: %d, %v", e, b)
	}
	for i, a := range []Answer{{}, {Replies: []Reply{}}, {Events: []Event{}}, {Replies: make([]Reply, 2)[:0], Events: make([]Event, 2)[:0]}} {
		if c, e := EncodeAnswer(a); e != api.OK || !bytes.Equal(c, make([]byte, 13)) {
			t.Errorf("P11.2: nothing %d: %d, %x", i, e, c)
		}
	}
	if a, e := DecodeAnswer(make([]byte, 13)); e != api.OK || !alikeAnswers(a, Answer{}) {
		t.Errorf("P11.2: nothing: %d, %v", e, a)
	}
}

// things tries v as a request, if it has no From, and as an event: alone, and at
// each place among others.
func things(t *testing.T, v Event, what string, at ...any) {
	t.Helper()
	for place := range 3 {
		reqs := []Req{{Kind: Refund, ID: 1}, {Kind: Transfer, To: 1}}
		evs := []Event{{Kind: Refund, ID: 1}, {Kind: Transfer, To: 1}}
		if v.From == 0 {
			batches.holds(t, Batch{3, slices.Insert(reqs, place, asReq(v))}, what, at, place, v)
		}
		answers.holds(t, Answer{2, 3, []Reply{{1, 2}}, slices.Insert(evs, place, v)}, what, at, place, v)
	}
	if v.From == 0 {
		batches.holds(t, Batch{0, []Req{asReq(v)}}, what, at, v)
	}
	answers.holds(t, Answer{Events: []Event{v}}, what, at, v)
}

// TestOneField gives each thing of each kind, and of kinds that are none, each
// value of each field.
func TestOneField(t *testing.T) {
	for _, has := range []map[int]string{requests, events} {
		for _, kind := range kinds() {
			things(t, good(has, kind), "good")
			for _, letter := range fields {
				for _, v := range put(good(has, kind), letter) {
					things(t, v, "one field", string(letter))
				}
			}
		}
	}
}

// TestOfAnotherKind gives the fields of each kind to each other one.
func TestOfAnotherKind(t *testing.T) {
	for _, has := range []map[int]string{requests, events} {
		for _, from := range []int{1, 2, 3, 4} {
			for _, kind := range kinds() {
				v := good(has, from)
				v.Kind = kind
				things(t, v, "of another kind", from)
			}
		}
	}
}

// TestSomeFields gives each kind each choice of the fields, and nothing of the
// others.
func TestSomeFields(t *testing.T) {
	full := Event{From: 255, To: 255, Asset: 255, Amount: most, ID: 65535, Deadline: last, Hash: long(32), Secret: long(32)}
	least := Event{From: 1, To: 1, Asset: 1, Amount: 1, ID: 1, Deadline: 1, Hash: "h", Secret: "s"}
	for _, kind := range []int{0, 1, 2, 3, 4, 5} {
		for choice := range 1 << len(fields) {
			letters := ""
			for i, letter := range fields {
				if choice>>i&1 == 1 {
					letters += string(letter)
				}
			}
			things(t, only(full, kind, letters), "full", letters)
			things(t, only(least, kind, letters), "least", letters)
		}
	}
}

// TestTwoFields gives each kind each two values of two fields.
func TestTwoFields(t *testing.T) {
	for _, has := range []map[int]string{requests, events} {
		for kind := range has {
			for i, one := range fields {
				for _, v := range put(good(has, kind), one) {
					for _, two := range fields[i+1:] {
						for _, w := range put(v, two) {
							if w.From == 0 {
								batches.holds(t, Batch{1, []Req{asReq(w)}}, "two fields", w)
							}
							answers.holds(t, Answer{Events: []Event{w}}, "two fields", w)
						}
					}
				}
			}
		}
	}
}

// TestSeenAndClock: the numbers of a batch and of an answer, and of a Reply, on
// either side of their bounds, with and without a thing that is wrong.
func TestSeenAndClock(t *testing.T) {
	for _, n := range edges() {
		for _, q := range []Req{{Kind: Refund}, {}} {
			batches.holds(t, Batch{Seen: n}, "Seen")
			batches.holds(t, Batch{Seen: n, Reqs: []Req{q}}, "Seen")
		}
		for _, v := range []Event{{Kind: Refund}, {}} {
			for i, a := range []Answer{{Seen: n}, {Clock: n}, {Replies: []Reply{{api.Errno(n), 0}}}, {Replies: []Reply{{0, n}}}} {
				answers.holds(t, a, "a number", i, n)
				a.Events = []Event{v}
				answers.holds(t, a, "a number", i, n)
				a.Replies = append(a.Replies, Reply{1, 2})
				answers.holds(t, a, "a number", i, n)
				a.Replies = append([]Reply{{17, 3}}, a.Replies...)
				answers.holds(t, a, "a number", i, n)
			}
		}
		for _, m := range edges() {
			answers.holds(t, Answer{Clock: n, Seen: m}, "two numbers", n, m)
			answers.holds(t, Answer{Replies: []Reply{{api.Errno(n), m}}}, "two numbers", n, m)
			answers.holds(t, Answer{Clock: n, Replies: []Reply{{0, m}}}, "two numbers", n, m)
		}
	}
}

// TestHowMany: none, one, the most, one more, and numbers that wrap to one within.
func TestHowMany(t *testing.T) {
	for _, n := range []int{0, 1, 2, 63, 64, 65, 66, 127, 128, 129, 255, 256, 257, 320, 512, 1 << 16, 1<<16 + 1} {
		for _, v := range []Event{good(requests, 1), good(requests, 2), good(requests, 3), {Kind: Refund}} {
			batches.holds(t, Batch{5, slices.Repeat([]Req{asReq(v)}, n)}, "how many Reqs", n)
		}
		answers.holds(t, Answer{Replies: make([]Reply, n)}, "how many Replies", n)
		answers.holds(t, Answer{Replies: slices.Repeat([]Reply{{7, 8}}, n), Events: []Event{{Kind: Refund}}}, "how many Replies", n)
	}
	for _, n := range []int{0, 1, 2, 64, 65, 255, 256, 257, 399, 400, 401, 402, 512, 656, 1 << 16, 1<<16 + 1, 1<<16 + 400} {
		for _, v := range []Event{good(events, 1), good(events, 2), good(events, 3), {Kind: Refund}} {
			answers.holds(t, Answer{Clock: 1, Seen: 2, Replies: []Reply{{3, 4}}, Events: slices.Repeat([]Event{v}, n)}, "how many Events", n)
			answers.holds(t, Answer{Events: slices.Repeat([]Event{v}, n)}, "how many Events", n)
		}
	}
}

// TestWrongAmongMany: the one that is wrong may stand anywhere.
func TestWrongAmongMany(t *testing.T) {
	for place := range 64 {
		for _, wrong := range []Event{{}, {Kind: Refund, To: 1}, {Kind: Lock, Hash: long(31)}, {Kind: Claim}, {Kind: Transfer, Amount: -1}} {
			l := slices.Repeat([]Req{{Kind: Refund}}, 64)
			l[place] = asReq(wrong)
			batches.holds(t, Batch{Reqs: l}, "wrong", place)
			for _, at := range []int{place, 399 - place} {
				l := slices.Repeat([]Event{{Kind: Refund}}, 400)
				l[at] = wrong
				answers.holds(t, Answer{Events: l}, "wrong", at)
			}
		}
		for _, wrong := range []Reply{{256, 0}, {-1, 0}, {0, 65536}, {0, -1}} {
			l := make([]Reply, 64)
			l[place] = wrong
			answers.holds(t, Answer{Replies: l}, "wrong", place)
		}
	}
}

// TestMixed encodes rows of things by chance, most of them good.
func TestMixed(t *testing.T) {
	r := rand.New(rand.NewSource(11))
	for i := range 3000 {
		b := Batch{Seen: r.Intn(65536)}
		a := Answer{Clock: r.Intn(last + 1), Seen: r.Intn(65536)}
		for range r.Intn(65) {
			v := chance(r, requests)
			b.Reqs = append(b.Reqs, asReq(v))
			a.Replies = append(a.Replies, Reply{api.Errno(r.Intn(256)), r.Intn(65536)})
		}
		for range r.Intn(90) {
			a.Events = append(a.Events, chance(r, events))
		}
		if i%4 == 0 && len(b.Reqs) > 0 {
			b.Reqs[r.Intn(len(b.Reqs))].ID = r.Intn(3) - 1
		}
		batches.holds(t, b, "mixed", i)
		answers.holds(t, a, "mixed", i)
	}
}

// chance is a good thing, whose numbers have any count of bits.
func chance(r *rand.Rand, has map[int]string) Event {
	full := Event{Hash: string(raw(r, 32)), Secret: string(raw(r, 32))}
	for _, letter := range fields {
		if n, greatest := number(&full, letter); n != nil {
			*n = min(int(r.Uint64()>>(1+r.Intn(62))), math.MaxInt) % (greatest + 1)
		}
	}
	kind := 1 + r.Intn(4)
	return only(full, kind, has[kind])
}

func raw(r *rand.Rand, n int) []byte {
	b := make([]byte, n)
	r.Read(b)
	return b
}
