package seal

import (
	"bytes"
	"testing"

	"counterfoil/api"
	"counterfoil/sha"
)

// TestHandedToSealStays looks at the key and the Body that were handed to Seal,
// and at what lies behind them.
func TestHandedToSealStays(t *testing.T) {
	table := sha.NewTable()
	for _, k := range keySizes() {
		for _, size := range append(sizes(), tooLong()[0]) {
			keyRoom, room := keyOf(k+100), body(size+100)
			keyWas, was := bytes.Clone(keyRoom), bytes.Clone(room)
			n := Note{Party: 2, Ledger: 1, Way: 1, Seq: 3, Body: room[:size]}
			b, e := Seal(table, keyRoom[:k], n)
			if e == api.OK && !bytes.Equal(b, want(keyWas[:k], Note{2, 1, 1, 3, was[:size]})) {
				t.Fatalf("P14.2: a key of %d bytes, a Body of %d: what lies behind them is read", k, size)
			}
			Seal(table, keyRoom[:k], Note{Party: 16, Seq: 3, Body: room[:size]})
			Seal(table, keyRoom[:k], Note{Body: room[:size]})
			if !bytes.Equal(keyRoom, keyWas) || !bytes.Equal(room, was) || !same(n, Note{2, 1, 1, 3, was[:size]}) {
				t.Fatalf("P14.2: a key of %d bytes, a Body of %d were changed, or what lies behind them", k, size)
			}
		}
	}
}

// TestHandedToSealIsNotKept turns the key and the Body behind Seal.
func TestHandedToSealIsNotKept(t *testing.T) {
	table := sha.NewTable()
	for _, k := range []int{0, 1, 32, 64, 65} {
		for _, size := range sizes() {
			key, n := keyOf(k), Note{Party: 2, Seq: 3, Body: body(size)}
			all := want(key, n)
			b := sealed(t, table, key, n, "handed in", k, size)
			spoil(key)
			spoil(n.Body)
			if !bytes.Equal(b, all) {
				t.Errorf("P14.2: Seal of %d bytes keeps the Body or the key", size)
			}
			spoil(b)
			opened(t, table, key, sealed(t, table, key, n, "behind what was turned", k, size), n, "behind what was turned", k, size)
		}
	}
}

// TestSealedIsNew turns what Seal answers, and its spare room: neither the Body
// nor the key shows it, and no other answer.
func TestSealedIsNew(t *testing.T) {
	table := sha.NewTable()
	for _, size := range sizes() {
		key, n := keyOf(32), Note{Party: 2, Seq: 3, Body: body(size)}
		kept := sealed(t, table, key, n, "kept", size)
		spoil(sealed(t, table, key, n, "turned", size))
		spoil(append(sealed(t, table, key, n, "appended to", size), 1, 2, 3))
		if !bytes.Equal(n.Body, body(size)) || !bytes.Equal(key, keyOf(32)) {
			t.Errorf("P14.2: what Seal of %d bytes answers is what was handed in", size)
		}
		if !bytes.Equal(kept, want(key, n)) {
			t.Errorf("P14.2: what Seal of %d bytes answers is not new", size)
		}
	}
}

// TestHandedToOpenStays looks at what was handed to Peek and to Open, and at what
// lies behind it, where a note stands and where none does.
func TestHandedToOpenStays(t *testing.T) {
	table := sha.NewTable()
	for _, k := range []int{0, 1, 32, 64, 65} {
		for _, size := range sizes() {
			keyRoom := keyOf(k + 100)
			keyWas := bytes.Clone(keyRoom)
			key := keyRoom[:k]
			b := want(key, Note{Party: 2, Ledger: 1, Way: 1, Seq: 3, Body: body(size)})
			for _, some := range [][]byte{b, turned(b, 0, 'm'), turned(b, 1, 16), turned(b, 7, 0), turned(b, 11, b[11]+1), turned(b, len(b)-1, b[len(b)-1]+1)} {
				room := append(bytes.Clone(some), body(100)...)
				was := bytes.Clone(room)
				for _, end := range []int{0, 1, 11, 12, 43, 44, len(b) - 1, len(b), len(b) + 1, len(b) + 32} {
					Peek(room[:end])
					n, _ := Open(table, key, room[:end])
					spoil(n.Body)
					if !bytes.Equal(room, was) || !bytes.Equal(keyRoom, keyWas) {
						t.Fatalf("P14.2: Open changes what was handed in, of %d bytes, cut at %d", size, end)
					}
				}
			}
		}
	}
}

// TestBehindTheLength: a note whose end lies behind the length is none, and one
// that ends there is one.
func TestBehindTheLength(t *testing.T) {
	table, key := sha.NewTable(), keyOf(32)
	for _, size := range sizes() {
		n := Note{Party: 2, Ledger: 1, Way: 1, Seq: 3, Body: body(size)}
		b := want(key, n)
		for _, end := range []int{0, 1, 4, 11, 12, 32, 43, len(b) - 32, len(b) - 1} {
			if end < len(b) {
				noForm(t, table, key, b[:end], "behind the length", size, end)
			}
		}
		room := append(bytes.Clone(b), body(100)...)
		opened(t, table, key, room[:len(b)], n, "more behind the length", size)
	}
}

// TestOpenedIsNew turns what was handed to Open, and the Bodies that it answered.
func TestOpenedIsNew(t *testing.T) {
	table, key := sha.NewTable(), keyOf(32)
	for _, size := range sizes() {
		n := Note{Party: 2, Ledger: 1, Way: 1, Seq: 3, Body: body(size)}
		b := sealed(t, table, key, n, "handed in", size)
		one, _ := Open(table, key, b)
		two, _ := Open(table, key, b)
		three, _ := Open(table, key, b)
		spoil(two.Body)
		if !bytes.Equal(b, want(key, n)) {
			t.Errorf("P14.2: a Body of %d bytes is what was handed in", size)
		}
		spoil(append(three.Body, 1, 2, 3))
		if !bytes.Equal(b, want(key, n)) || !same(one, n) {
			t.Errorf("P14.2: a Body of %d bytes is not new", size)
		}
		opened(t, table, key, b, n, "behind a turned answer", size)
		spoil(b)
		if !same(one, n) {
			t.Errorf("P14.2: a Body of %d bytes is kept from what was handed in", size)
		}
		spoil(b)
		spoil(key)
		if !same(one, n) {
			t.Errorf("P14.2: a Body of %d bytes hangs on the key", size)
		}
		spoil(key)
	}
}

// TestSameMemory hands in the same memory twice: a key that is the Body, and a
// key that is in the note itself.
func TestSameMemory(t *testing.T) {
	table := sha.NewTable()
	for _, size := range []int{0, 1, 32, 64, 65, 200} {
		room := body(size + 50)
		shared := room[:size]
		n := Note{Party: 4, Seq: 5, Body: shared}
		b := sealed(t, table, shared, n, "the Body as key", size)
		opened(t, table, b[12:12+size], b, n, "the Body in it as key", size)
		opened(t, table, b[12:12+size:12+size], b, n, "the Body in it as key, without room", size)
		if !bytes.Equal(room, body(size+50)) {
			t.Errorf("P14.2: %d bytes as key and Body were changed", size)
		}
	}
}

// TestManyAnswers keeps many answers of both calls, and turns each second one:
// the others stay.
func TestManyAnswers(t *testing.T) {
	table, key := sha.NewTable(), keyOf(32)
	var kept, wants [][]byte
	for i := range 200 {
		n := Note{Party: i % 16, Seq: i + 1, Body: body(i)}
		b := sealed(t, table, key, n, "many", i)
		m, e := Open(table, key, b)
		if e != api.OK {
			t.Fatalf("P14.1: %d bytes: %d", i, e)
		}
		kept = append(kept, b, m.Body)
		wants = append(wants, want(key, n), body(i))
	}
	for turn := range 2 {
		for i := turn; i < len(kept); i += 2 {
			if !bytes.Equal(kept[i], wants[i]) {
				t.Fatalf("P14.2: answer %d is another one now", i)
			}
		}
		for i := turn; i < len(kept); i += 2 {
			spoil(kept[i])
		}
	}
}
