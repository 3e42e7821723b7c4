package seal

import (
	"bytes"
	"crypto/hmac"
	"crypto/sha256"
	"encoding/binary"
	"math"
	"math/rand"
	"slices"
	"testing"

	"counterfoil/api"
	"counterfoil/sha"
)

// body answers n bytes of which hardly one is like the next.
func body(n int) []byte {
	b := make([]byte, n)
	rand.New(rand.NewSource(int64(n) + 14)).Read(b)
	return b
}

// keyOf answers a key of n bytes that is another one than the body of n.
func keyOf(n int) []byte {
	b := make([]byte, n)
	rand.New(rand.NewSource(-int64(n) - 14)).Read(b)
	return b
}

// spoil turns b, and its spare room.
func spoil(b []byte) {
	b = b[:cap(b)]
	for i := range b {
		b[i] ^= 0xff
	}
}

// turned is b, its byte i another one.
func turned(b []byte, i int, c byte) []byte {
	b = bytes.Clone(b)
	b[i] = c
	return b
}

// keySizes lie about the length from which on a key counts as its hash.
func keySizes() []int { return []int{0, 1, 2, 20, 31, 32, 33, 63, 64, 65, 66, 100, 128, 1000} }

// sizes are the lengths of Bodies at the edges that the chapter has, and at those
// of a block of the hash behind the key.
func sizes() []int {
	return []int{0, 1, 2, 31, 32, 33, 42, 43, 44, 51, 52, 53, 107, 108, 255, 256, 257, 1000, 30000, 59999, 60000}
}

// tooLong are lengths above MaxRecord.
func tooLong() []int {
	return []int{60001, 60002, 60012, 60044, 65535, 65536, 65537, 1 << 17, 1<<17 + 60000, 1 << 24}
}

// seqs are the edges of a Seq, and some between.
func seqs() []int {
	return []int{1, 2, 255, 256, 257, 65535, 65536, 0x01020304, 1<<24 - 1, 1 << 24, 0xfffefdfc, 1<<31 - 1, 1 << 31, 1<<32 - 2, 1<<32 - 1}
}

// far are numbers that none of the four may be.
func far() []int {
	return []int{-1, -2, -16, -255, -256, -1 << 32, -1<<32 + 1, math.MinInt, math.MinInt + 1, 1 << 32, 1<<32 + 1, 1 << 33, 1 << 40, 1 << 56, 1<<62 - 1, 1 << 62, 1<<62 + 1, math.MaxInt}
}

// notParties, notTwo and notSeqs are what a Party, a Ledger or a Way, and a Seq
// may not be.
func notParties() []int { return append(far(), 16, 17, 31, 32, 127, 128, 255, 256, 257, 271, 1<<32-1) }
func notTwo() []int     { return append(far(), 2, 3, 4, 15, 16, 127, 128, 255, 256, 257, 512, 1<<32-1) }
func notSeqs() []int    { return append(far(), 0) }

// each calls f with every Party, Ledger and Way that may be.
func each(f func(party, which, way int)) {
	for party := range 16 {
		for which := range 2 {
			for way := range 2 {
				f(party, which, way)
			}
		}
	}
}

// textOf is n ahead of its tag, by the library.
func textOf(n Note) []byte {
	b := []byte{'n', byte(n.Party), byte(n.Ledger), byte(n.Way)}
	b = binary.BigEndian.AppendUint32(b, uint32(n.Seq))
	b = binary.BigEndian.AppendUint32(b, uint32(len(n.Body)))
	return append(b, n.Body...)
}

// tagOf is the tag of a text, by the library.
func tagOf(key, text []byte) []byte {
	h := hmac.New(sha256.New, key)
	h.Write(text)
	return h.Sum(nil)
}

// tagged is a text with the tag that fits.
func tagged(key, text []byte) []byte { return slices.Concat(text, tagOf(key, text)) }

// want is n with its tag, in the chapter's words.
func want(key []byte, n Note) []byte { return tagged(key, textOf(n)) }

func same(m, n Note) bool {
	return m.Party == n.Party && m.Ledger == n.Ledger && m.Way == n.Way && m.Seq == n.Seq && bytes.Equal(m.Body, n.Body)
}

// plainForm is what b tells, in the chapter's words: false, if it is none.
func plainForm(b []byte) (Note, bool) {
	if len(b) < 44 || b[0] != 'n' || b[1] > 15 || b[2] > 1 || b[3] > 1 {
		return Note{}, false
	}
	size := uint64(binary.BigEndian.Uint32(b[8:12]))
	if size > 60000 || uint64(len(b)) != 44+size {
		return Note{}, false
	}
	seq := int(binary.BigEndian.Uint32(b[4:8]))
	return Note{int(b[1]), int(b[2]), int(b[3]), seq, b[12 : len(b)-32]}, true
}

// plainOpen is what Open has to answer, in the chapter's words.
func plainOpen(key, b []byte) (Note, api.Errno) {
	n, ok := plainForm(b)
	if !ok || n.Seq == 0 {
		return Note{}, api.ErrForm
	}
	if !bytes.Equal(tagOf(key, b[:len(b)-32]), b[len(b)-32:]) {
		return Note{}, api.ErrMac
	}
	return n, api.OK
}

// sealed answers n as bytes, and holds them against the chapter's words.
func sealed(t *testing.T, table *sha.Table, key []byte, n Note, what string, at ...any) []byte {
	t.Helper()
	b, e := Seal(table, key, n)
	if e != api.OK || !bytes.Equal(b, want(key, n)) {
		t.Fatalf("P14.1: %s %v: Seal of %d, %d, %d, %d, %d bytes: %d, %x", what, at, n.Party, n.Ledger, n.Way, n.Seq, len(n.Body), e, b)
	}
	return b
}

// refused holds that Seal answers e, and nothing.
func refused(t *testing.T, table *sha.Table, n Note, e api.Errno) {
	t.Helper()
	if b, got := Seal(table, []byte("key"), n); got != e || len(b) > 0 {
		t.Fatalf("P14.1: Seal of %d, %d, %d, %d, %d bytes: %d, not %d, %x", n.Party, n.Ledger, n.Way, n.Seq, len(n.Body), got, e, b)
	}
}

// asked asks Peek and Open of b, twice, and holds both against the chapter's
// words. It answers what Open answers.
func asked(t *testing.T, table *sha.Table, key, b []byte, what string, at ...any) (Note, api.Errno) {
	t.Helper()
	form, ok := plainForm(b)
	formError := api.OK
	if !ok {
		formError = api.ErrForm
	}
	n, wrong := plainOpen(key, b)
	var m Note
	for range 2 {
		party, which, way, e := Peek(b)
		if party != form.Party || which != form.Ledger || way != form.Way || e != formError {
			t.Fatalf("P14.1: %s %v: Peek: %d, %d, %d, %d, not %d, %d, %d, %d", what, at, party, which, way, e, form.Party, form.Ledger, form.Way, formError)
		}
		m, e = Open(table, key, b)
		if e != wrong || !same(m, n) {
			t.Fatalf("P14.1: %s %v: Open: %d, %v, not %d, %v", what, at, e, m, wrong, n)
		}
	}
	return m, wrong
}

// opened holds that b is n.
func opened(t *testing.T, table *sha.Table, key, b []byte, n Note, what string, at ...any) {
	t.Helper()
	if m, e := asked(t, table, key, b, what, at...); e != api.OK || !same(m, n) {
		t.Fatalf("P14.3: %s %v: Open: %d, %v, not %v", what, at, e, m, n)
	}
}

// none holds that Open answers e, and nothing; and that Peek answers as the
// chapter's words.
func none(t *testing.T, table *sha.Table, key, b []byte, e api.Errno, what string, at ...any) {
	t.Helper()
	if m, got := asked(t, table, key, b, what, at...); got != e || !same(m, Note{}) {
		t.Fatalf("P14.1: %s %v: Open: %d, not %d, %v", what, at, got, e, m)
	}
}

// noForm holds that neither Peek nor Open finds a note, whether the tag fits or
// not.
func noForm(t *testing.T, table *sha.Table, key, b []byte, what string, at ...any) {
	t.Helper()
	if party, which, way, e := Peek(b); party != 0 || which != 0 || way != 0 || e != api.ErrForm {
		t.Fatalf("P14.1: %s %v: Peek: %d, %d, %d, %d", what, at, party, which, way, e)
	}
	none(t, table, key, b, api.ErrForm, what, at...)
}
