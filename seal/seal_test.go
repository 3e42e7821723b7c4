package seal

import (
	"bytes"
	"encoding/hex"
	"math/rand"
	"strings"
	"sync"
	"testing"

	"counterfoil/api"
	"counterfoil/mac"
	"counterfoil/sha"
)

// TestKnown holds notes whose tags were worked out elsewhere.
func TestKnown(t *testing.T) {
	table := sha.NewTable()
	var rising []byte
	for i := range 64 {
		rising = append(rising, byte(i))
	}
	for i, c := range []struct {
		key  []byte
		n    Note
		text string
	}{
		{nil, Note{Seq: 1}, "6e 00 00 00 00000001 00000000 220a183f27f4151c471bc37b361124c26a6bc4f68ee61f65b7f8d13b5274ee01"},
		{[]byte("key"), Note{3, 1, 1, 258, []byte("hey")}, "6e 03 01 01 00000102 00000003 686579 e1562fc974829aec5a1ef91bf1a382af28f167e11a4955ac2a87071b87518fa4"},
		{
			bytes.Repeat([]byte{0xaa}, 65), Note{15, 1, 0, 1<<32 - 1, bytes.Repeat([]byte{'z'}, 40)},
			"6e 0f 01 00 ffffffff 00000028" + strings.Repeat("7a", 40) + "521e2cedb5e20840fe3188dc4e8dedd5712ecaad44ac05bd6049ede82edc5ae7",
		},
		{rising, Note{7, 0, 1, 0x01020304, make([]byte, 3)}, "6e 07 00 01 01020304 00000003 000000 4a6142e6c6e603944a6a838b2e5c776ce1ccd3c46707ae5b290f94c6f6077f6b"},
	} {
		b, err := hex.DecodeString(strings.ReplaceAll(c.text, " ", ""))
		if err != nil {
			t.Fatal(err)
		}
		if got, e := Seal(table, c.key, c.n); e != api.OK || !bytes.Equal(got, b) {
			t.Errorf("P14.1: case %d: %d, %x", i, e, got)
		}
		opened(t, table, c.key, b, c.n, "known", i)
	}
}

// TestWays holds the numbers of the ways.
func TestWays(t *testing.T) {
	if Ask != 0 || Tell != 1 {
		t.Errorf("P14.1: Ask %d, Tell %d", Ask, Tell)
	}
}

// TestByteByByte looks at each byte of a note, each of which tells another thing.
func TestByteByByte(t *testing.T) {
	table, key := sha.NewTable(), []byte("shared")
	n := Note{Party: 9, Ledger: 1, Way: 0, Seq: 0xa1b2c3d4, Body: body(0x1234)}
	b, e := Seal(table, key, n)
	if e != api.OK || len(b) != 12+0x1234+32 {
		t.Fatalf("P14.1: %d, %d bytes", e, len(b))
	}
	for i, c := range []byte{'n', 9, 1, 0, 0xa1, 0xb2, 0xc3, 0xd4, 0, 0, 0x12, 0x34} {
		if b[i] != c {
			t.Errorf("P14.1: byte %d: %x, not %x", i, b[i], c)
		}
	}
	end := len(b) - 32
	if !bytes.Equal(b[12:end], n.Body) {
		t.Error("P14.1: another Body")
	}
	if !bytes.Equal(b[end:], mac.One(table, key, b[:end])) || !bytes.Equal(b[end:], tagOf(key, b[:end])) {
		t.Error("P14.1: the tag is not over all that stands ahead of it")
	}
	n.Ledger, n.Way = 0, 1
	if b, _ := Seal(table, key, n); b[2] != 0 || b[3] != 1 {
		t.Errorf("P14.1: Ledger and Way: %d, %d", b[2], b[3])
	}
}

// TestNoBody: a note without a body has 44 bytes.
func TestNoBody(t *testing.T) {
	table := sha.NewTable()
	for _, key := range [][]byte{nil, {}, {1}, keyOf(32)} {
		for _, empty := range [][]byte{nil, {}, body(5)[:0]} {
			n := Note{Party: 2, Way: Tell, Seq: 3, Body: empty}
			b := sealed(t, table, key, n, "no Body")
			if len(b) != 44 {
				t.Errorf("P14.1: %d bytes", len(b))
			}
			opened(t, table, key, b, n, "no Body")
		}
	}
}

// TestNumbers seals and opens each Party, Ledger and Way, with each edge of a Seq.
func TestNumbers(t *testing.T) {
	table, key := sha.NewTable(), keyOf(32)
	each(func(party, which, way int) {
		for _, seq := range seqs() {
			n := Note{party, which, way, seq, body(seq % 7)}
			opened(t, table, key, sealed(t, table, key, n, "numbers"), n, "numbers")
		}
	})
	for i := range 32 {
		n := Note{Seq: 1 << i}
		opened(t, table, key, sealed(t, table, key, n, "bit", i), n, "bit", i)
	}
}

// TestSizes seals and opens Bodies of each length up to some blocks, and of each
// edge: bytes of all kinds, and such as spell another note.
func TestSizes(t *testing.T) {
	table, key := sha.NewTable(), keyOf(32)
	l := sizes()
	for n := range 300 {
		l = append(l, n)
	}
	for _, size := range l {
		for i, b := range [][]byte{body(size), make([]byte, size), bytes.Repeat([]byte{255}, size), bytes.Repeat([]byte{'n'}, size)} {
			n := Note{Party: size % 16, Ledger: size % 2, Way: i % 2, Seq: size + 1, Body: b}
			got := sealed(t, table, key, n, "sizes", size, i)
			if len(got) != 44+size {
				t.Fatalf("P14.1: %d bytes of a Body of %d", len(got), size)
			}
			opened(t, table, key, got, n, "sizes", size, i)
		}
	}
}

// TestNoteInNote seals notes in notes.
func TestNoteInNote(t *testing.T) {
	table, key := sha.NewTable(), keyOf(32)
	n := Note{Party: 1, Ledger: 1, Way: 1, Seq: 1}
	for i := range 20 {
		b := sealed(t, table, key, n, "note in note", i)
		opened(t, table, key, b, n, "note in note", i)
		n = Note{Party: i % 16, Seq: i + 1, Body: b}
	}
}

// TestKeys seals and opens with keys of each edge.
func TestKeys(t *testing.T) {
	table := sha.NewTable()
	for _, k := range keySizes() {
		for _, size := range sizes() {
			key, n := keyOf(k), Note{Party: 5, Ledger: 1, Way: Ask, Seq: 77, Body: body(size)}
			opened(t, table, key, sealed(t, table, key, n, "keys", k, size), n, "keys", k, size)
		}
	}
}

// TestOutOfRange seals with each number that may not be, among such as may be.
func TestOutOfRange(t *testing.T) {
	table := sha.NewTable()
	for _, size := range []int{0, 5, 60000} {
		b := make([]byte, size)
		for _, x := range notParties() {
			for _, ok := range []int{0, 1} {
				refused(t, table, Note{x, ok, ok, 1, b}, api.ErrRange)
				refused(t, table, Note{x, 1 - ok, ok, 1<<32 - 1, b}, api.ErrRange)
			}
		}
		for _, x := range notTwo() {
			for _, party := range []int{0, 1, 15} {
				for _, ok := range []int{0, 1} {
					refused(t, table, Note{party, x, ok, 1, b}, api.ErrRange)
					refused(t, table, Note{party, ok, x, 1<<32 - 1, b}, api.ErrRange)
				}
			}
		}
		for _, x := range notSeqs() {
			each(func(party, which, way int) { refused(t, table, Note{party, which, way, x, b}, api.ErrRange) })
		}
	}
}

// TestSeveralWrong: ErrRange is told where several are wrong, and ahead of
// ErrLong.
func TestSeveralWrong(t *testing.T) {
	table := sha.NewTable()
	// The first two of each may be.
	parties, twos, numbers := [4]int{0, 15, -1, 16}, [4]int{0, 1, -1, 2}, [4]int{1, 1<<32 - 1, 0, 1 << 32}
	for choice := range 256 {
		i, j, k, l := choice&3, choice>>2&3, choice>>4&3, choice>>6
		for _, size := range []int{0, 60000, 60001, 70000} {
			n := Note{parties[i], twos[j], twos[k], numbers[l], make([]byte, size)}
			switch {
			case max(i, j, k, l) > 1:
				refused(t, table, n, api.ErrRange)
			case size > 60000:
				refused(t, table, n, api.ErrLong)
			default:
				sealed(t, table, nil, n, "several", choice, size)
			}
		}
	}
}

// TestTooLong: ErrLong where all else may be.
func TestTooLong(t *testing.T) {
	table := sha.NewTable()
	for _, size := range tooLong() {
		b := make([]byte, size)
		each(func(party, which, way int) {
			refused(t, table, Note{party, which, way, 1, b}, api.ErrLong)
			refused(t, table, Note{party, which, way, 1<<32 - 1, b}, api.ErrLong)
		})
		for _, x := range notParties() {
			refused(t, table, Note{x, 0, 0, 1, b}, api.ErrRange)
		}
		for _, x := range notTwo() {
			refused(t, table, Note{0, x, 0, 1, b}, api.ErrRange)
			refused(t, table, Note{0, 0, x, 1, b}, api.ErrRange)
		}
		for _, x := range notSeqs() {
			refused(t, table, Note{0, 0, 0, x, b}, api.ErrRange)
		}
	}
}

// TestMany seals notes by chance, with one table and with such as nobody asked
// yet.
func TestMany(t *testing.T) {
	r, table := rand.New(rand.NewSource(14)), sha.NewTable()
	for range 2000 {
		key, n := keyOf(r.Intn(100)), Note{r.Intn(16), r.Intn(2), r.Intn(2), 1 + int(r.Uint32()>>r.Intn(32)), body(r.Intn(200))}
		n.Seq = min(n.Seq, 1<<32-1)
		b := sealed(t, table, key, n, "many")
		opened(t, table, key, b, n, "many")
		opened(t, sha.NewTable(), key, b, n, "a table that Open asks first")
		if again, e := Seal(sha.NewTable(), key, n); e != api.OK || !bytes.Equal(again, b) {
			t.Fatalf("P14.1: another table: %d, %x", e, again)
		}
	}
}

// TestFromAnywhere seals and opens from many places at once with a table that
// nobody asked yet.
func TestFromAnywhere(t *testing.T) {
	table := sha.NewTable()
	var all sync.WaitGroup
	for i := range 16 {
		all.Go(func() {
			key, n := keyOf(60+i), Note{Party: i, Ledger: i % 2, Way: i / 2 % 2, Seq: i + 1, Body: body(i * 10)}
			b, e := Seal(table, key, n)
			if e != api.OK || !bytes.Equal(b, want(key, n)) {
				t.Errorf("P14.1: from many at once, %d: %d, %x", i, e, b)
			}
			if m, e := Open(table, key, b); e != api.OK || !same(m, n) {
				t.Errorf("P14.3: from many at once, %d: %d, %v", i, e, m)
			}
		})
	}
	all.Wait()
}
