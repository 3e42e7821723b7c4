package seal

import (
	"bytes"
	"encoding/binary"
	"math/rand"
	"slices"
	"testing"

	"counterfoil/api"
	"counterfoil/sha"
)

// head is what stands ahead of a Body, whatever the numbers are.
func head(first, party, which, way byte, seq, size uint32) []byte {
	b := []byte{first, party, which, way}
	b = binary.BigEndian.AppendUint32(b, seq)
	return binary.BigEndian.AppendUint32(b, size)
}

// peeked holds that Peek answers these three.
func peeked(t *testing.T, b []byte, party, which, way int, what string, at ...any) {
	t.Helper()
	for range 2 {
		if p, l, w, e := Peek(b); p != party || l != which || w != way || e != api.OK {
			t.Fatalf("P14.1: %s %v: Peek: %d, %d, %d, %d, not %d, %d, %d", what, at, p, l, w, e, party, which, way)
		}
	}
}

// TestTooFew: fewer than 44 bytes are none, whatever they say of their length.
func TestTooFew(t *testing.T) {
	table, key := sha.NewTable(), keyOf(32)
	for n := range 44 {
		noForm(t, table, key, make([]byte, n), "bytes 0", n)
		noForm(t, table, key, bytes.Repeat([]byte{'n'}, n), "bytes n", n)
		noForm(t, table, key, bytes.Repeat([]byte{255}, n), "bytes 255", n)
		for _, size := range []uint32{0, 1, uint32(n), uint32(n - 12), uint32(n - 44), 60000, 1<<32 - 1} {
			b := append(head('n', 3, 1, 1, 5, size), make([]byte, 44)...)
			noForm(t, table, key, b[:n], "cut", n, size)
			noForm(t, table, key, slices.Clip(b[:n]), "cut, without room behind", n, size)
		}
	}
	noForm(t, table, key, nil, "nil")
	noForm(t, table, nil, nil, "nil, without a key")
}

// TestNotALetter puts each byte where `n` has to be.
func TestNotALetter(t *testing.T) {
	table, key := sha.NewTable(), keyOf(32)
	for _, size := range []int{0, 1, 40} {
		n := Note{Party: 3, Ledger: 1, Way: 1, Seq: 258, Body: body(size)}
		for c := range 256 {
			b := turned(textOf(n), 0, byte(c))
			if c == 'n' {
				opened(t, table, key, tagged(key, b), n, "the letter")
				continue
			}
			noForm(t, table, key, tagged(key, b), "another letter", c)
			noForm(t, table, key, append(b, make([]byte, 32)...), "another letter, no tag", c)
		}
	}
}

// TestEachNumber puts each byte where a Party, a Ledger and a Way have to be,
// with tags that fit and without.
func TestEachNumber(t *testing.T) {
	table, key := sha.NewTable(), keyOf(32)
	none := make([]byte, 32)
	for _, text := range [][]byte{textOf(Note{Seq: 1}), textOf(Note{15, 1, 1, 258, body(20)}), textOf(Note{4, 0, 1, 1<<32 - 1, body(100)})} {
		for place, most := range map[int]int{1: 15, 2: 1, 3: 1} {
			for c := range 256 {
				b := turned(text, place, byte(c))
				if c > most {
					noForm(t, table, key, tagged(key, b), "a number that may not be", place, c)
					noForm(t, table, key, append(b, none...), "a number that may not be, no tag", place, c)
					continue
				}
				peeked(t, tagged(key, b), int(b[1]), int(b[2]), int(b[3]), "numbers", place, c)
				peeked(t, append(b, none...), int(b[1]), int(b[2]), int(b[3]), "numbers, no tag", place, c)
				if _, e := asked(t, table, key, tagged(key, b), "numbers"); e != api.OK {
					t.Fatalf("P14.1: byte %d is %d: %d", place, c, e)
				}
			}
		}
	}
}

// TestNumbersTogether puts each choice of numbers about the edges.
func TestNumbersTogether(t *testing.T) {
	table, key := sha.NewTable(), keyOf(20)
	for _, party := range []byte{0, 1, 14, 15, 16, 17, 255} {
		for _, which := range []byte{0, 1, 2, 3, 255} {
			for _, way := range []byte{0, 1, 2, 3, 255} {
				for _, seq := range []uint32{0, 1, 1<<32 - 1} {
					b := append(head('n', party, which, way, seq, 3), 7, 8, 9)
					fits := party < 16 && which < 2 && way < 2
					if fits {
						peeked(t, tagged(key, b), int(party), int(which), int(way), "together", seq)
						asked(t, table, key, tagged(key, b), "together", seq)
						continue
					}
					noForm(t, table, key, tagged(key, b), "together", party, which, way, seq)
				}
			}
		}
	}
}

// TestLengthDoesNotFit says of notes another length than they have.
func TestLengthDoesNotFit(t *testing.T) {
	table, key := sha.NewTable(), keyOf(32)
	for _, size := range append(sizes(), 3, 4, 5) {
		text := textOf(Note{Party: 3, Ledger: 1, Way: 1, Seq: 258, Body: body(size)})
		said := []uint32{0, 1, 32, 44, 60000, 60001, 65535, 65536, 1<<31 - 1, 1 << 31, 1<<32 - 44, 1<<32 - 1}
		for d := uint32(1); d <= 50; d++ {
			said = append(said, uint32(size)+d, uint32(size)-d)
		}
		for i := range 32 {
			said = append(said, uint32(size)^1<<i)
		}
		for _, n := range said {
			if n == uint32(size) {
				continue
			}
			binary.BigEndian.PutUint32(text[8:], n)
			noForm(t, table, key, tagged(key, text), "another length", size, n)
		}
	}
}

// TestBytesDoNotFit cuts notes at each place, and lets them go on, with tags that
// fit anew and with the old ones.
func TestBytesDoNotFit(t *testing.T) {
	table, key := sha.NewTable(), keyOf(32)
	for _, size := range []int{0, 1, 2, 31, 32, 33, 64, 200} {
		text := textOf(Note{Party: 3, Ledger: 1, Way: 1, Seq: 258, Body: body(size)})
		b := tagged(key, text)
		for cut := range b {
			noForm(t, table, key, b[:cut], "cut", size, cut)
			noForm(t, table, key, b[cut+1:], "cut ahead", size, cut)
			noForm(t, table, key, slices.Delete(bytes.Clone(b), cut, cut+1), "left out", size, cut)
			noForm(t, table, key, slices.Insert(bytes.Clone(b), cut, b[cut]), "put in", size, cut)
		}
		for cut := range text {
			noForm(t, table, key, tagged(key, text[:cut]), "cut, tagged anew", size, cut)
		}
		for more := 1; more < 100; more++ {
			noForm(t, table, key, append(bytes.Clone(b), make([]byte, more)...), "goes on", size, more)
			noForm(t, table, key, slices.Concat(b, body(more)), "goes on with bytes", size, more)
			noForm(t, table, key, tagged(key, slices.Concat(text, body(more))), "goes on, tagged anew", size, more)
		}
		noForm(t, table, key, slices.Concat(b, b), "twice", size)
	}
	for _, size := range sizes() {
		b := want(key, Note{Party: 3, Ledger: 1, Way: 1, Seq: 258, Body: body(size)})
		noForm(t, table, key, b[:len(b)-1], "one byte too few", size)
		noForm(t, table, key, append(b, 0), "one byte too many", size)
	}
}

// TestLongestMayBe: a length of MaxRecord may be, and no greater one, though it
// fits.
func TestLongestMayBe(t *testing.T) {
	table, key := sha.NewTable(), keyOf(32)
	for _, size := range []int{59999, 60000} {
		b := slices.Concat(head('n', 3, 1, 1, 0, uint32(size)), body(size), make([]byte, 32))
		peeked(t, b, 3, 1, 1, "long", size)
	}
	for _, size := range tooLong() {
		text := append(head('n', 3, 1, 1, 258, uint32(size)), body(size)...)
		noForm(t, table, key, tagged(key, text), "too long", size)
		noForm(t, table, key, append(text, make([]byte, 32)...), "too long, no tag", size)
	}
}

// TestNotLookedAt: Peek looks at no Seq, no Body and no tag.
func TestNotLookedAt(t *testing.T) {
	for _, size := range []int{0, 1, 40} {
		good := want(keyOf(5), Note{Party: 13, Ledger: 1, Way: 0, Seq: 258, Body: body(size)})
		for i := range good {
			if i < 4 || i > 7 && i < 12 {
				continue
			}
			for c := range 256 {
				peeked(t, turned(good, i, byte(c)), 13, 1, 0, "not looked at", size, i, c)
			}
		}
	}
	for _, seq := range []uint32{0, 1, 1 << 31, 1<<32 - 1} {
		each(func(party, which, way int) {
			b := append(head('n', byte(party), byte(which), byte(way), seq, 0), make([]byte, 32)...)
			peeked(t, b, party, which, way, "a Seq", seq)
		})
	}
}

// TestNoNote asks of bytes that are no note's, and of such by chance that begin
// as one or nearly so.
func TestNoNote(t *testing.T) {
	r, table := rand.New(rand.NewSource(15)), sha.NewTable()
	for n := range 400 {
		for _, c := range []byte{0, 1, 'n', 255} {
			noForm(t, table, keyOf(5), bytes.Repeat([]byte{c}, n), "one byte alone", c, n)
		}
	}
	noForm(t, table, keyOf(5), make([]byte, 1<<20), "many bytes 0")
	found := make(map[api.Errno]int)
	for range 20000 {
		size := r.Intn(60)
		text := append(head('n', byte(r.Intn(17)), byte(r.Intn(3)), byte(r.Intn(3)), uint32(r.Intn(3)), uint32(size+r.Intn(3)-1)), body(size)...)
		if r.Intn(8) == 0 {
			text[0] ^= 1 << r.Intn(8)
		}
		key := keyOf(r.Intn(3))
		_, e := asked(t, table, keyOf(r.Intn(3)), tagged(key, text), "by chance")
		found[e]++
	}
	for _, e := range []api.Errno{api.OK, api.ErrForm, api.ErrMac} {
		if found[e] < 100 {
			t.Errorf("by chance: %d of %d", found[e], e)
		}
	}
}
