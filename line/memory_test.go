package line_test

import (
	"bytes"
	"testing"

	"counterfoil/api"
	"counterfoil/line"
	"counterfoil/seal"
)

// TestSentStays: the body of Send is neither changed nor kept, nor what lies behind
// it, whether it is sent or refused.
func TestSentStays(t *testing.T) {
	for _, size := range sizes() {
		x := open(t, 3, 1, 4)
		for turn := range 2 {
			in, all := roomy(some(size, turn))
			was := bytes.Clone(all)
			n, e := x.send(in)
			if e != api.OK || !bytes.Equal(all, was) {
				t.Fatalf("P16.2: a body of %d bytes is changed, or what lies behind it: %d", size, e)
			}
			spoil(all)
			x.holds()
			if !bytes.Equal(n.Body, was[:size]) {
				t.Fatalf("P16.2: the note of Send is the body that was handed in")
			}
			other, rest := roomy(some(size, 5))
			was = bytes.Clone(rest)
			if _, e := x.send(other); e != api.ErrState || !bytes.Equal(rest, was) {
				t.Fatalf("P16.2: a body that is refused is changed: %d", e)
			}
			spoil(rest)
			x.holds()
			x.got(x.told(nil))
		}
		last := open(t, 3, 1, topmost)
		in, all := roomy(some(size, 6))
		was := bytes.Clone(all)
		if _, e := last.send(in); e != api.ErrRange || !bytes.Equal(all, was) {
			t.Fatalf("P16.2: a body that is refused is changed: %d", e)
		}
	}
}

// TestSentIsNew turns the note of Send and each note of Again, and their spare room:
// nothing of the line shows it, and no other one of these notes.
func TestSentIsNew(t *testing.T) {
	for _, size := range sizes() {
		body := some(size, 1)
		x := open(t, 3, 1, 4)
		sent, _ := x.send(body)
		one, _ := x.l.Again()
		two, _ := x.l.Again()
		notes := []seal.Note{sent, one, two}
		for k, n := range notes {
			spoil(append(n.Body, 1, 2, 3))
			spoil(n.Body)
			notes[k] = seal.Note{}
			for _, other := range notes[k+1:] {
				if !bytes.Equal(other.Body, some(size, 1)) {
					t.Fatalf("P16.2: two notes of %d bytes are one", size)
				}
			}
			x.holds()
		}
		if !bytes.Equal(body, some(size, 1)) {
			t.Fatalf("P16.2: a note of %d bytes is what was handed in", size)
		}
	}
}

// TestSpareRoom: what is written behind the length of one note is not seen in that of
// another one.
func TestSpareRoom(t *testing.T) {
	for _, size := range sizes() {
		x := open(t, 3, 1, 4)
		sent, _ := x.send(some(size, 1))
		one, _ := x.l.Again()
		two, _ := x.l.Again()
		bodies := [][]byte{sent.Body, one.Body, two.Body}
		for k, b := range bodies {
			b = b[:cap(b)]
			for i := range b[size:] {
				b[size+i] = byte(k + 1)
			}
		}
		for k, b := range bodies {
			b = b[:cap(b)]
			for i := range b[size:] {
				if b[size+i] != byte(k+1) {
					t.Fatalf("P16.2: two notes of %d bytes share their spare room", size)
				}
			}
		}
		x.holds()
	}
}

// TestSentIsKeptApart: the notes of a talk that is over are still what they were when
// the next one is sent, and nothing of the next one is in them.
func TestSentIsKeptApart(t *testing.T) {
	x := open(t, 3, 1, 4)
	var kept []seal.Note
	for k := range 40 {
		sent, _ := x.send(some(40-k, k))
		again, _ := x.l.Again()
		kept = append(kept, sent, again)
		x.got(x.told(nil))
	}
	for i, n := range kept {
		if k := i / 2; n.Seq != 5+k || !bytes.Equal(n.Body, some(40-k, k)) {
			t.Errorf("P16.2: note %d is another one now: %s", i, show(n))
		}
		spoil(n.Body)
	}
	x.holds()
}

// TestToldStays: the Body of Got's note is neither changed nor kept, nor what lies
// behind it; and what Got answers is new.
func TestToldStays(t *testing.T) {
	for _, size := range sizes() {
		x := open(t, 3, 1, 4)
		in, all := roomy(some(size, 1))
		was := bytes.Clone(all)
		n := x.told(in)
		n.Seq++
		wrong := []seal.Note{n, {Party: 2, Ledger: 1, Way: 1, Seq: 5, Body: in}, {Party: 3, Ledger: 1, Way: 0, Seq: 5, Body: in}}
		x.got(n) // nothing waits yet
		x.send([]byte("hey"))
		wrong[0].Seq++
		for _, n := range wrong {
			if _, e := x.got(n); e == api.OK || !bytes.Equal(all, was) {
				t.Fatalf("P16.2: a Body that is refused is changed: %d", e)
			}
		}
		b, e := x.got(n)
		if e != api.OK || !bytes.Equal(all, was) {
			t.Fatalf("P16.2: a Body of %d bytes is changed, or what lies behind it: %d", size, e)
		}
		spoil(append(b, 1, 2, 3))
		if !bytes.Equal(all, was) {
			t.Fatalf("P16.2: the spare room of what Got answers is that of what was handed in")
		}
		spoil(b)
		if !bytes.Equal(all, was) {
			t.Fatalf("P16.2: what Got answers is what was handed in")
		}
		x.holds()
		copy(b, was)
		spoil(all)
		if !bytes.Equal(b, was[:size]) {
			t.Fatalf("P16.2: what Got answers is what was handed in")
		}
		x.holds()
		x.send(nil)
	}
}

// TestOneMemory: the note of Send, the line's own Body and what is told may be handed
// in again.
func TestOneMemory(t *testing.T) {
	x := open(t, 3, 1, 4)
	body := some(50, 1)
	for range 5 {
		n, e := x.send(body)
		if e != api.OK {
			t.Fatalf("P16.1: Send: %d", e)
		}
		n.Way = seal.Tell
		b, e := x.got(n)
		if e != api.OK || !bytes.Equal(b, some(50, 1)) {
			t.Fatalf("P16.1: Got: %d", e)
		}
		n, _ = x.send(b)
		spoil(b)
		x.holds()
		b, _ = x.got(x.told(n.Body))
		spoil(n.Body)
		body = b
	}
}

// TestNothingBeside: beside an error, and beside a false, there is nothing else.
func TestNothingBeside(t *testing.T) {
	l := line.New(3, 1, topmost)
	if n, e := l.Send([]byte("hey")); e != api.ErrRange || n.Body != nil || !same(n, seal.Note{}) {
		t.Errorf("P16.1: Send: %s, %d", show(n), e)
	}
	l = line.New(3, 1, 4)
	l.Send([]byte("hey"))
	if n, e := l.Send([]byte("hey")); e != api.ErrState || len(n.Body) != 0 || !same(n, seal.Note{}) {
		t.Errorf("P16.1: Send: %s, %d", show(n), e)
	}
	for _, n := range []seal.Note{{Party: 3, Ledger: 1, Way: 1, Seq: 4}, {Party: 3, Ledger: 1, Way: 1, Seq: 6}, {Party: 4, Ledger: 1, Way: 1, Seq: 5}} {
		n.Body = []byte("yes")
		if b, e := l.Got(n); e == api.OK || len(b) != 0 {
			t.Errorf("P16.1: Got of %s: %q, %d", show(n), b, e)
		}
	}
}
