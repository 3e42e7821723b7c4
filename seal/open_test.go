package seal

import (
	"bytes"
	"math/rand"
	"slices"
	"testing"

	"counterfoil/api"
	"counterfoil/sha"
)

// samples are notes, without a body, and with a short and a longer one.
func samples() []Note {
	return []Note{
		{Party: 0, Ledger: 0, Way: Ask, Seq: 1},
		{Party: 3, Ledger: 1, Way: Tell, Seq: 258, Body: []byte("hey")},
		{Party: 15, Ledger: 1, Way: Ask, Seq: 1<<32 - 1, Body: body(70)},
	}
}

// TestAnotherKey opens with keys that are not the one that sealed.
func TestAnotherKey(t *testing.T) {
	table := sha.NewTable()
	for _, n := range samples() {
		for _, k := range keySizes() {
			key := keyOf(k)
			b := sealed(t, table, key, n, "another key", k)
			for i := range key {
				for bit := range 8 {
					none(t, table, turned(key, i, key[i]^1<<bit), b, api.ErrMac, "a bit of the key turned", k, i, bit)
				}
			}
			// Bytes 0 behind a short key are the same key to HMAC.
			none(t, table, append(bytes.Clone(key), 1), b, api.ErrMac, "a byte behind the key", k)
			none(t, table, append([]byte{1}, key...), b, api.ErrMac, "a byte ahead of the key", k)
			if k > 0 {
				none(t, table, key[:k-1], b, api.ErrMac, "a shorter key", k)
				none(t, table, nil, b, api.ErrMac, "no key", k)
			}
			opened(t, table, key, b, n, "the key", k)
		}
	}
}

// TestKeysOfHMAC: bytes 0 behind a key of up to 64 bytes change nothing, and a
// longer key counts as its hash, as chapter 3 says.
func TestKeysOfHMAC(t *testing.T) {
	table := sha.NewTable()
	n := Note{Party: 1, Seq: 9, Body: body(9)}
	for _, k := range []int{0, 1, 32, 63} {
		b := sealed(t, table, keyOf(k), n, "short keys", k)
		for end := k; end <= 64; end++ {
			opened(t, table, append(keyOf(k), make([]byte, end-k)...), b, n, "bytes 0 behind a key", k, end)
		}
		none(t, table, append(keyOf(k), make([]byte, 65-k)...), b, api.ErrMac, "a byte more than a block", k)
	}
	long := keyOf(65)
	opened(t, table, sha.One(table, long), sealed(t, table, long, n, "a long key"), n, "the hash of a long key")
}

// TestNoSeq: a Seq 0 is no note to Open, whether the tag fits or not, and one to
// Peek.
func TestNoSeq(t *testing.T) {
	table, key := sha.NewTable(), keyOf(32)
	for _, n := range samples() {
		n.Seq = 0
		b := want(key, n)
		none(t, table, key, b, api.ErrForm, "a Seq 0, the tag fits")
		none(t, table, nil, b, api.ErrForm, "a Seq 0, another key")
		none(t, table, key, turned(b, len(b)-1, b[len(b)-1]+1), api.ErrForm, "a Seq 0, another tag")
		peeked(t, b, n.Party, n.Ledger, n.Way, "a Seq 0")
		for i := range 32 {
			n.Seq = 1 << i
			opened(t, table, key, want(key, n), n, "a Seq of one bit", i)
		}
	}
}

// TestEachByteTurned turns each bit of notes, and each byte to others: what
// stands ahead tells by its form or by the tag, all else by the tag.
func TestEachByteTurned(t *testing.T) {
	table, key := sha.NewTable(), keyOf(32)
	for _, n := range samples() {
		b := sealed(t, table, key, n, "turned")
		for i := range b {
			for c := range 256 {
				if byte(c) == b[i] {
					continue
				}
				other := turned(b, i, byte(c))
				_, e := asked(t, table, key, other, "turned", i, c)
				if e != api.ErrMac && (i > 11 || e != api.ErrForm) {
					t.Fatalf("P14.1: byte %d turned to %d: %d", i, c, e)
				}
			}
		}
	}
	for _, size := range []int{59999, 60000} {
		b := sealed(t, table, key, Note{Party: 7, Seq: 8, Body: body(size)}, "turned", size)
		for i := 12; i < len(b); i += 1999 {
			none(t, table, key, turned(b, i, b[i]^1), api.ErrMac, "a bit turned", size, i)
		}
		for i := len(b) - 33; i < len(b); i++ {
			none(t, table, key, turned(b, i, b[i]^128), api.ErrMac, "a bit turned at the end", size, i)
		}
	}
}

// TestEachByteTaggedAnew turns each byte of a text to each other one and puts the
// tag that fits behind: it is the note that it says, or none.
func TestEachByteTaggedAnew(t *testing.T) {
	table, key := sha.NewTable(), keyOf(32)
	for _, n := range samples() {
		text := textOf(n)
		for i := range text {
			for c := range 256 {
				b := tagged(key, turned(text, i, byte(c)))
				if m, e := asked(t, table, key, b, "tagged anew", i, c); e == api.ErrMac || e == api.OK && !bytes.Equal(want(key, m), b) {
					t.Fatalf("P14.1: byte %d turned to %d, tagged anew: %d, %v", i, c, e, m)
				}
			}
		}
	}
}

// TestBitsTaggedAnew turns two bits of a head together and puts the tag that fits
// behind.
func TestBitsTaggedAnew(t *testing.T) {
	table, key := sha.NewTable(), keyOf(32)
	text := textOf(samples()[1])
	for i := range 12 * 8 {
		for j := range i {
			b := bytes.Clone(text)
			b[i/8] ^= 1 << (i % 8)
			b[j/8] ^= 1 << (j % 8)
			asked(t, table, key, tagged(key, b), "two bits", i, j)
		}
	}
}

// TestOtherTags puts tags that are of another thing, or none.
func TestOtherTags(t *testing.T) {
	table, key := sha.NewTable(), keyOf(32)
	for _, n := range samples() {
		text := textOf(n)
		right := tagOf(key, text)
		swapped := bytes.Clone(right)
		slices.Reverse(swapped)
		for i, tag := range [][]byte{
			make([]byte, 32), bytes.Repeat([]byte{255}, 32), swapped,
			append(right[1:32:32], right[0]), append(bytes.Clone(right[:31]), right[31]^1),
			tagOf(key, n.Body), tagOf(key, text[1:]), tagOf(key, text[:12]), tagOf(key, append(text, right...)),
			tagOf(nil, text), tagOf(text, key), sha.One(table, text), sha.One(table, slices.Concat(key, text)),
		} {
			if bytes.Equal(tag, right) {
				continue // The text is its head alone where there is no body.
			}
			none(t, table, key, slices.Concat(text, tag), api.ErrMac, "another tag", i)
		}
		other := n
		other.Party ^= 1
		none(t, table, key, slices.Concat(textOf(other), right), api.ErrMac, "the tag of another note")
		opened(t, table, key, slices.Concat(text, right), n, "the right tag")
	}
}

// TestFormFirst: what is none is ErrForm, whatever the key is.
func TestFormFirst(t *testing.T) {
	table, key := sha.NewTable(), keyOf(32)
	for _, n := range samples() {
		b := want(key, n)
		for _, other := range [][]byte{nil, {1}, keyOf(65)} {
			none(t, table, other, b, api.ErrMac, "another key alone")
			for i, wrong := range [][]byte{
				b[:len(b)-1], append(bytes.Clone(b), 0), b[:43], nil, b[1:],
				turned(b, 0, 'm'), turned(b, 1, 16), turned(b, 2, 2), turned(b, 3, 2), turned(b, 8, 1), turned(b, 11, b[11]+1),
			} {
				none(t, table, other, wrong, api.ErrForm, "both are wrong", i)
			}
		}
	}
}

// TestOneNoteAlone: no two notes that differ have the same bytes, and no bytes
// are a note but those that Seal makes.
func TestOneNoteAlone(t *testing.T) {
	r, table, key := rand.New(rand.NewSource(16)), sha.NewTable(), keyOf(32)
	seen := make(map[string]Note)
	for range 3000 {
		n := Note{r.Intn(3), r.Intn(2), r.Intn(2), 1 + r.Intn(3), body(r.Intn(3))}
		b := sealed(t, table, key, n, "alone")
		if was, ok := seen[string(b)]; ok && !same(was, n) {
			t.Fatalf("P14.3: %v and %v are the same bytes", was, n)
		}
		seen[string(b)] = n
		m, e := Open(table, key, b)
		if e != api.OK || !same(m, n) {
			t.Fatalf("P14.3: %d, %v, not %v", e, m, n)
		}
		if again := sealed(t, table, key, m, "again"); !bytes.Equal(again, b) {
			t.Fatalf("P14.3: Seal of Open: %x, not %x", again, b)
		}
	}
}
