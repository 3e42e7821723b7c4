package frame

import (
	"bytes"
	"slices"
	"testing"

	"counterfoil/api"
	"counterfoil/sha"
)

// spoil turns b, and its spare room.
func spoil(b []byte) {
	b = b[:cap(b)]
	for i := range b {
		b[i] ^= 0xff
	}
}

// TestBodyStays looks at what was handed to Put, and at what lies behind it.
func TestBodyStays(t *testing.T) {
	table := sha.NewTable()
	for _, n := range append(sizes(), tooLong()...) {
		room := body(n + 300)
		was := bytes.Clone(room)
		f := Frame{1, 2, 3, room[:n]}
		b, e := Put(table, f)
		Put(table, Frame{-1, 2, 3, room[:n]})
		if !bytes.Equal(room, was) || !same(f, Frame{1, 2, 3, was[:n]}) {
			t.Errorf("P7.3: a Body of %d bytes was changed, or what lies behind it", n)
		}
		if e == api.OK && !bytes.Equal(b, want(Frame{1, 2, 3, was[:n]})) {
			t.Errorf("P7.3: what lies behind a Body of %d bytes is read", n)
		}
	}
}

// TestBodyIsNotKept turns a Body behind Put.
func TestBodyIsNotKept(t *testing.T) {
	table := sha.NewTable()
	for _, n := range sizes() {
		f := Frame{1, 2, 3, body(n)}
		sectors := want(f)
		b := put(t, table, f, "a Body that is turned", n)
		spoil(f.Body)
		if !bytes.Equal(b, sectors) {
			t.Errorf("P7.3: Put of %d bytes keeps the Body", n)
		}
		spoil(b)
		put(t, table, f, "a Body that was turned", n)
	}
}

// TestSectorsAreNew turns what Put answers: the Body does not show it, and no
// other answer.
func TestSectorsAreNew(t *testing.T) {
	table := sha.NewTable()
	for _, n := range sizes() {
		f := Frame{1, 2, 3, body(n)}
		kept := put(t, table, f, "kept", n)
		spoil(put(t, table, f, "turned", n))
		spoil(append(put(t, table, f, "appended to", n), 1, 2, 3))
		if !bytes.Equal(f.Body, body(n)) {
			t.Errorf("P7.3: what Put of %d bytes answers is the Body's memory", n)
		}
		if !bytes.Equal(kept, want(f)) {
			t.Errorf("P7.3: what Put of %d bytes answers is not new", n)
		}
		put(t, table, f, "behind a turned answer", n)
	}
}

// TestBytesStay looks at what was handed to Get, and at what lies behind it,
// where a frame stands and where none does.
func TestBytesStay(t *testing.T) {
	table := sha.NewTable()
	for _, n := range sizes() {
		f := Frame{1, 2, 3, body(n)}
		b := put(t, table, f, "handed in", n)
		for _, wrong := range [][]byte{b, turned(b, 0, 2), turned(b, 1, 0), turned(b, 17, b[17]+1), turned(b, len(b)-1, b[len(b)-1]+1)} {
			room := append(bytes.Clone(wrong), body(200)...)
			was := bytes.Clone(room)
			for _, end := range []int{0, 1, 63, 64, len(b) - 1, len(b), len(b) + 1, len(b) + 64} {
				g, _, _ := Get(table, room[:end])
				spoil(g.Body)
				if !bytes.Equal(room, was) {
					t.Fatalf("P7.3: Get changes what was handed in, of %d bytes, cut at %d", n, end)
				}
			}
		}
	}
}

// TestBehindTheLength: a frame whose end lies behind the length is none.
func TestBehindTheLength(t *testing.T) {
	table := sha.NewTable()
	for _, n := range sizes() {
		b := put(t, table, Frame{1, 2, 3, body(n)}, "behind the length", n)
		for _, end := range []int{0, 1, 25, 63, len(b) - 64, len(b) - 1} {
			none(t, table, b[:end], "P7.3: behind the length", n, end)
		}
	}
}

// TestBytesAreNotKept turns what was handed to Get, and what it answered.
func TestBytesAreNotKept(t *testing.T) {
	table := sha.NewTable()
	for _, n := range sizes() {
		f := Frame{1, 2, 3, body(n)}
		b := put(t, table, f, "handed in", n)
		one, _, _ := Get(table, b)
		two, _, _ := Get(table, b)
		three, _, _ := Get(table, b)
		spoil(two.Body)
		if !bytes.Equal(b, want(f)) {
			t.Errorf("P7.3: a Body of %d bytes is what was handed in", n)
		}
		spoil(append(three.Body, 1, 2, 3))
		if !same(one, f) {
			t.Errorf("P7.3: a Body of %d bytes is not new", n)
		}
		got(t, table, b, f, "behind a turned answer", n)
		spoil(b)
		if !same(one, f) {
			t.Errorf("P7.3: a Body of %d bytes is kept from what was handed in", n)
		}
		none(t, table, b, "what was turned", n)
	}
}

// TestAnswersAsArguments puts what was got, and puts what was put, with room
// behind it.
func TestAnswersAsArguments(t *testing.T) {
	table := sha.NewTable()
	f := Frame{1, 2, 3, body(45)}
	b := put(t, table, f, "first")
	var frames []Frame
	for range 6 {
		g, _, e := Get(table, b)
		if e != api.OK {
			t.Fatalf("P7.2: %d", e)
		}
		frames = append(frames, g)
		next := Frame{1, 2, 3, b}
		was := bytes.Clone(b)
		b = put(t, table, next, "what was put")
		if !bytes.Equal(next.Body, was) {
			t.Fatal("P7.3: what was put is changed")
		}
		if again := put(t, table, g, "what was got"); !bytes.Equal(again, was) {
			t.Fatal("P7.4: what was got is put")
		}
	}
	for i, g := range frames[1:] {
		if !bytes.Equal(g.Body, want(frames[i])) {
			t.Errorf("P7.3: frame %d is another one now", i+1)
		}
	}
}

// TestManyAnswers keeps many answers of both calls, and turns each second one:
// the others stay.
func TestManyAnswers(t *testing.T) {
	table := sha.NewTable()
	var kept, wants [][]byte
	for i := range 200 {
		f := Frame{i, i, i, body(i)}
		b := put(t, table, f, "many", i)
		g, _, e := Get(table, slices.Concat(b, b))
		if e != api.OK {
			t.Fatalf("P7.2: %d bytes: %d", i, e)
		}
		kept = append(kept, b, g.Body)
		wants = append(wants, want(f), body(i))
	}
	for turn := range 2 {
		for i := turn; i < len(kept); i += 2 {
			if !bytes.Equal(kept[i], wants[i]) {
				t.Fatalf("P7.3: answer %d is another one now", i)
			}
		}
		for i := turn; i < len(kept); i += 2 {
			spoil(kept[i])
		}
	}
}
