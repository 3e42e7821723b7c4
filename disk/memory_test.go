package disk

import (
	"bytes"
	"slices"
	"testing"

	"counterfoil/api"
)

// spoil turns b, and its spare room.
func spoil(b []byte) {
	b = b[:cap(b)]
	for i := range b {
		b[i] ^= 0xff
	}
}

// TestTextIsNotKept turns what was handed to Write: no sector shows it, pending,
// lasting or fallen back.
func TestTextIsNotKept(t *testing.T) {
	d, want := filled(t, 2)
	was := slices.Clone(want)
	b := text(1)
	want[0] = text(1)
	if e := d.Write(0, b); e != api.OK {
		t.Fatalf("P6.1: Write: %d", e)
	}
	spoil(b)
	holds(t, d, want, 1, "P6.3: a text that is turned")
	d.Crash(nil)
	holds(t, d, was, 0, "P6.3: a text that is turned, and lost")
	b = text(2)
	d.Write(0, b)
	synced(t, d)
	spoil(b)
	want[0] = text(2)
	holds(t, d, want, 0, "P6.3: a text that is turned, and synced")
	put(t, d, want, 0, 3)
	spoil(b)
	d.Crash(nil)
	want[0] = text(2)
	holds(t, d, want, 0, "P6.3: a text that is turned, and fallen back to")
	b = text(4)
	d.Write(1, b)
	spoil(b)
	d.Crash([]bool{true})
	spoil(b)
	spoil(b[:10])
	want[1] = text(4)
	holds(t, d, want, 0, "P6.3: a text that is turned, and kept")
}

// TestOneTextTwice writes one piece of memory to two sectors.
func TestOneTextTwice(t *testing.T) {
	d, want := made(t, 2), zeros(2)
	b := make([]byte, 64)
	for i := range 2 {
		copy(b, text(i))
		if e := d.Write(i, b); e != api.OK {
			t.Fatalf("P6.1: Write: %d", e)
		}
		want[i] = text(i)
	}
	holds(t, d, want, 2, "P6.3: one text twice")
}

// TestTextStays looks at what was handed in, and at what lies behind it, behind
// each call.
func TestTextStays(t *testing.T) {
	room := append(text(1), text(2)...)
	was := bytes.Clone(room)
	d := made(t, 2)
	for i := -1; i < 3; i++ {
		for _, n := range []int{0, 63, 64, 65} {
			d.Write(i, room[:n])
		}
	}
	if got, e := d.Read(0); e != api.OK || !bytes.Equal(got, text(1)) {
		t.Errorf("P6.1: a text with more behind it: %d, %x", e, got)
	}
	d.Write(0, text(3))
	d.Sync()
	d.Write(0, text(4))
	d.Crash(nil)
	d.Fuse(0)
	d.Write(0, room[:64])
	d.Crash(nil)
	if !bytes.Equal(room, was) {
		t.Error("P6.3: what was handed in was changed, or what lies behind it")
	}
}

// TestKeepStays: a keep is not changed, what lies behind its length is not read,
// and it may be turned then.
func TestKeepStays(t *testing.T) {
	for length := range 4 {
		d, want := filled(t, 3)
		now := slices.Clone(want)
		for i := range 3 {
			put(t, d, now, i, i)
		}
		room := all(5)
		d.Crash(room[:length])
		copy(want, now[:length])
		holds(t, d, want, 0, "P6.3: a keep with more behind it", length)
		if !slices.Equal(room, all(5)) {
			t.Errorf("P6.3: keep of %d was changed: %v", length, room)
		}
		clear(room)
		holds(t, d, want, 0, "P6.3: a keep that is turned", length)
		for i := range 3 {
			put(t, d, now, i, 10+i)
		}
		d.Crash(room[:length])
		holds(t, d, want, 0, "P6.3: a keep that keeps nothing", length)
		if slices.Contains(room, true) {
			t.Errorf("P6.3: keep of %d was changed: %v", length, room)
		}
	}
}

// TestAnswersAreNew turns each answer of Read, and its spare room: no other one
// shows it, and no sector, pending or lasting.
func TestAnswersAreNew(t *testing.T) {
	d, want := filled(t, 3)
	was := slices.Clone(want)
	for _, pending := range []int{0, 1} {
		if pending > 0 {
			put(t, d, want, 1, 7)
		}
		var kept [][]byte
		for i := range 3 {
			b, _ := d.Read(i)
			kept = append(kept, b)
			b, _ = d.Read(i)
			spoil(b)
			b, _ = d.Read(i)
			spoil(append(b, 1, 2, 3))
		}
		for i, b := range kept {
			if !bytes.Equal(b, want[i]) {
				t.Errorf("P6.3: Read(%d) is not new: %x", i, b)
			}
		}
		holds(t, d, want, pending, "P6.3: a turned answer", pending)
		spoil(kept[0])
		if !bytes.Equal(kept[1], want[1]) {
			t.Error("P6.3: the answers of two sectors are one")
		}
	}
	d.Crash(nil)
	holds(t, d, was, 0, "P6.3: a turned answer, and what it falls back to")
}

// TestAnswersStay keeps what Read told while the sector goes on: it stays as it
// was told.
func TestAnswersStay(t *testing.T) {
	d, want := filled(t, 2)
	var told, wants [][]byte
	for c := range 40 {
		b, _ := d.Read(c % 2)
		told, wants = append(told, b), append(wants, want[c%2])
		was := slices.Clone(want)
		put(t, d, want, c%2, c)
		switch c % 5 {
		case 1:
			synced(t, d)
		case 3:
			d.Crash([]bool{true, true})
		case 4:
			d.Crash(nil)
			want = was
		}
	}
	for c, b := range told {
		if !bytes.Equal(b, wants[c]) {
			t.Errorf("P6.3: what Read told at step %d is now another", c)
		}
	}
}

// TestReadIsWritten writes what Read answered elsewhere, and turns it.
func TestReadIsWritten(t *testing.T) {
	d, want := filled(t, 2)
	b, _ := d.Read(0)
	if e := d.Write(1, b); e != api.OK {
		t.Fatalf("P6.1: Write: %d", e)
	}
	spoil(b)
	want[1] = want[0]
	holds(t, d, want, 1, "P6.3: an answer written elsewhere")
}

// TestSideBySide turns one Disk: the other one does not show it.
func TestSideBySide(t *testing.T) {
	one, want := filled(t, 2)
	other, rest := filled(t, 2)
	put(t, other, rest, 1, 1)
	put(t, one, want, 0, 2)
	put(t, one, want, 1, 3)
	holds(t, other, rest, 1, "beside Write")
	synced(t, one)
	holds(t, other, rest, 1, "beside Sync")
	one.Fuse(0)
	synced(t, other)
	put(t, other, rest, 0, 4)
	one.Sync()
	holds(t, other, rest, 1, "beside one that is Down")
	isDown(t, one, 2, 0, "the one")
	one.Crash(nil)
	holds(t, other, rest, 1, "beside Crash")
	holds(t, one, want, 0, "the one")
	other.Crash([]bool{true})
	holds(t, other, rest, 0, "the other one")
}
