package sha

import (
	"bytes"
	"crypto/sha256"
	"encoding"
	"encoding/binary"
	"encoding/hex"
	"math"
	"math/rand"
	"strings"
	"testing"
)

// edges are the lengths that lie about a block's end, and about the place
// where the end of a text needs a block more.
func edges() []int {
	return []int{0, 1, 2, 54, 55, 56, 57, 62, 63, 64, 65, 118, 119, 120, 121, 127, 128, 129, 183, 184, 191, 192, 193}
}

// text answers n bytes of which no two blocks are alike.
func text(n int) []byte {
	b := make([]byte, n)
	rand.New(rand.NewSource(int64(n) + 1)).Read(b)
	return b
}

// want is the sum of b by the library.
func want(b []byte) []byte {
	sum := sha256.Sum256(b)
	return sum[:]
}

// written is the sum behind the parts.
func written(t *Table, parts ...[]byte) []byte {
	h := New(t)
	for _, p := range parts {
		h.Write(p)
	}
	return h.Sum()
}

// TestKnown holds sums as FIPS 180-4's examples and the chapter tell them.
func TestKnown(t *testing.T) {
	table := NewTable()
	for _, c := range []struct{ name, text, sum string }{
		{"nothing", "", "e3b0c44298fc1c149afbf4c8996fb92427ae41e4649b934ca495991b7852b855"},
		{"abc", "abc", "ba7816bf8f01cfea414140de5dae2223b00361a396177a9cb410ff61f20015ad"},
		{"two blocks", "abcdbcdecdefdefgefghfghighijhijkijkljklmklmnlmnomnopnopq", "248d6a61d20638b8e5c026930c3e6039a33ce45964ff2167f6ecedd419db06c1"},
		{"long", "abcdefghbcdefghicdefghijdefghijkefghijklfghijklmghijklmnhijklmnoijklmnopjklmnopqklmnopqrlmnopqrsmnopqrstnopqrstu", "cf5b16a778af8380036ce59e7b0492370b249b11e8f07a51afac45037afee9d1"},
		{"a million", strings.Repeat("a", 1000000), "cdc76e5c9914fb9281a1c7e284d73e67f1809a48a497200e046d39ccc7112cd0"},
	} {
		if got := hex.EncodeToString(One(table, []byte(c.text))); got != c.sum {
			t.Errorf("P2.2: One of %s: %s", c.name, got)
		}
		if got := hex.EncodeToString(written(table, []byte(c.text))); got != c.sum {
			t.Errorf("P2.2: Sum of %s: %s", c.name, got)
		}
	}
}

func TestNothingWritten(t *testing.T) {
	table := NewTable()
	for i, got := range [][]byte{
		New(table).Sum(), One(table, nil), One(table, []byte{}),
		written(table, nil), written(table, []byte{}, nil, []byte{}),
	} {
		if !bytes.Equal(got, want(nil)) {
			t.Errorf("P2.2: nothing, case %d: %x", i, got)
		}
	}
}

func TestLengths(t *testing.T) {
	table := NewTable()
	for n := range 400 {
		for i, b := range [][]byte{text(n), make([]byte, n), bytes.Repeat([]byte{0xff}, n), bytes.Repeat([]byte{0x80}, n)} {
			if got := One(table, b); !bytes.Equal(got, want(b)) {
				t.Errorf("P2.2: %d bytes, case %d: %x", n, i, got)
			}
		}
	}
	for _, n := range []int{1<<13 - 1, 1 << 13, 1<<13 + 1, 1<<16 + 55, 1<<20 + 56} {
		if got := One(table, text(n)); !bytes.Equal(got, want(text(n))) {
			t.Errorf("P2.2: %d bytes: %x", n, got)
		}
	}
}

// TestManyBytes takes a Hash and the library's behind the same first block,
// tells both that more was written, and holds their sums against each other.
func TestManyBytes(t *testing.T) {
	table, first := NewTable(), text(block)
	for _, size := range []uint64{1 << 8, 1 << 13, 1<<29 - 64, 1 << 29, 1<<29 + 64, 1 << 31, 1 << 32, 1 << 45, 1<<60 - 128} {
		mine, theirs := New(table), sha256.New()
		mine.Write(first)
		theirs.Write(first)
		mine.size = size
		state, err := theirs.(encoding.BinaryMarshaler).MarshalBinary()
		if err != nil {
			t.Fatal(err)
		}
		binary.BigEndian.PutUint64(state[len(state)-8:], size)
		if err := theirs.(encoding.BinaryUnmarshaler).UnmarshalBinary(state); err != nil {
			t.Fatal(err)
		}
		for _, n := range []int{0, 3, 60, 65} { // 128 in all
			mine.Write(text(n))
			theirs.Write(text(n))
			if got := mine.Sum(); !bytes.Equal(got, theirs.Sum(nil)) {
				t.Errorf("P2.2: %d bytes, %d of them last: %x", mine.size, n, got)
			}
		}
	}
}

// TestSumInTheMiddle asks for the sum behind each of the first edges, twice,
// and writes on.
func TestSumInTheMiddle(t *testing.T) {
	table, b := NewTable(), text(500)
	for _, first := range edges() {
		for _, second := range edges() {
			h := New(table)
			h.Write(b[:first])
			for range 2 {
				if got := h.Sum(); !bytes.Equal(got, want(b[:first])) {
					t.Fatalf("P2.2: %d bytes: %x", first, got)
				}
			}
			h.Write(b[first : first+second])
			if got := h.Sum(); !bytes.Equal(got, want(b[:first+second])) {
				t.Fatalf("P2.2: %d bytes behind a Sum at %d: %x", second, first, got)
			}
		}
	}
}

func TestSumBehindEveryByte(t *testing.T) {
	b, h := text(200), New(NewTable())
	for i := range b {
		h.Write(b[i : i+1])
		if got := h.Sum(); !bytes.Equal(got, want(b[:i+1])) {
			t.Fatalf("P2.2: Sum behind %d bytes: %x", i+1, got)
		}
	}
}

// TestTwoParts writes each edge's text cut at every place.
func TestTwoParts(t *testing.T) {
	table := NewTable()
	for _, n := range edges() {
		b := text(n)
		for cut := range n + 1 {
			if got := written(table, b[:cut], b[cut:]); !bytes.Equal(got, One(table, b)) {
				t.Errorf("P2.4: %d bytes cut at %d: %x", n, cut, got)
			}
			if got := written(table, nil, b[:cut], []byte{}, b[cut:], nil); !bytes.Equal(got, One(table, b)) {
				t.Errorf("P2.4: %d bytes cut at %d, nothing beside: %x", n, cut, got)
			}
		}
	}
}

func TestEvenParts(t *testing.T) {
	table := NewTable()
	for _, n := range append(edges(), 500, 1000) {
		b := text(n)
		for size := 1; size <= 200; size++ {
			h := New(table)
			for rest := b; len(rest) > 0; {
				k := min(size, len(rest))
				h.Write(rest[:k])
				rest = rest[k:]
			}
			if got := h.Sum(); !bytes.Equal(got, One(table, b)) {
				t.Errorf("P2.4: %d bytes by %d: %x", n, size, got)
			}
		}
	}
}

func TestUnevenParts(t *testing.T) {
	table, r := NewTable(), rand.New(rand.NewSource(1))
	for range 500 {
		b := text(r.Intn(700))
		h := New(table)
		for rest := b; len(rest) > 0; {
			k := min(r.Intn(150), len(rest))
			h.Write(rest[:k])
			rest = rest[k:]
		}
		if got := h.Sum(); !bytes.Equal(got, One(table, b)) || !bytes.Equal(got, want(b)) {
			t.Fatalf("P2.4: %d bytes: %x", len(b), got)
		}
	}
}

// TestTextStays looks at what was handed in, and at what lies behind it.
func TestTextStays(t *testing.T) {
	table := NewTable()
	for _, n := range edges() {
		room := text(n + 100)
		was := bytes.Clone(room)
		h := New(table)
		h.Write(room[:n])
		h.Write(room[:n])
		h.Sum()
		One(table, room[:n])
		if !bytes.Equal(room, was) {
			t.Errorf("P2.3: %d bytes were changed, or what lies behind them", n)
		}
	}
}

// TestTextIsNotKept spoils each part behind its Write.
func TestTextIsNotKept(t *testing.T) {
	table := NewTable()
	for _, n := range edges() {
		b := text(2 * n)
		h := New(table)
		for _, p := range [][]byte{b[:n], b[n:]} {
			part := bytes.Clone(p)
			h.Write(part)
			clear(part)
		}
		if got := h.Sum(); !bytes.Equal(got, want(b)) {
			t.Errorf("P2.3: twice %d bytes, spoiled: %x", n, got)
		}
	}
}

// spoil writes over b, and over its spare room.
func spoil(b []byte) {
	b = b[:cap(b)]
	for i := range b {
		b[i] ^= 0xff
	}
}

func TestAnswersAreNew(t *testing.T) {
	table, b := NewTable(), text(100)
	h := New(table)
	h.Write(b)
	for name, sum := range map[string]func() []byte{
		"Sum": h.Sum,
		"One": func() []byte { return One(table, b) },
	} {
		kept := sum()
		if len(kept) != 32 {
			t.Fatalf("P2.2: %s of %d bytes", name, len(kept))
		}
		spoil(sum())
		if !bytes.Equal(kept, want(b)) || !bytes.Equal(sum(), want(b)) {
			t.Errorf("P2.3: what %s answers is not new", name)
		}
	}
	h.Write(b)
	if got := h.Sum(); !bytes.Equal(got, want(append(bytes.Clone(b), b...))) {
		t.Errorf("P2.3: a spoiled answer shows in what is written behind: %x", got)
	}
}

// TestSideBySide writes to two by turns: they share the Table alone.
func TestSideBySide(t *testing.T) {
	table := NewTable()
	one, other := New(table), New(table)
	b, c := text(300), text(299)
	for i := 0; i < 290; i += 29 {
		one.Write(b[i : i+29])
		other.Write(c[i : i+29])
	}
	if !bytes.Equal(one.Sum(), want(b[:290])) || !bytes.Equal(other.Sum(), want(c[:290])) {
		t.Error("P2.2: two side by side")
	}
	if table.Word(0) != 0x428a2f98 || table.Start(0) != 0x6a09e667 || table.Word(math.MaxInt) != 0 {
		t.Error("P2.1: the Table is another one behind a hash")
	}
}
