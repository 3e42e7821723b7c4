package vault

import (
	"bytes"
	"slices"
	"testing"

	"counterfoil/api"
	"counterfoil/req"
)

// sameOpen opens a disk that tells these: a Vault and a plain one say the same of
// it, and tell the same.
func sameOpen(t *testing.T, events int, picture []byte, records [][]byte, what ...any) bool {
	t.Helper()
	c := conf(events)
	d := with(t, c, picture, records...)
	s := tells(d)
	if s.pictured != (picture != nil) || !bytes.Equal(s.picture, picture) || len(s.records) != len(records) {
		t.Fatalf("P8.1: %v: %v", what, s)
	}
	_, ok := opened(c, s, d.Len()/2)
	if !ok {
		isNone(t, 2, c, d, what...)
		return false
	}
	over(t, c, d, "as it was changed")
	return true
}

// changes are all b with a byte of it turned, left out or put in, and cut.
func changes(b []byte) [][]byte {
	var l [][]byte
	for i := range b {
		for _, c := range []byte{0, 1, b[i] + 1, b[i] - 1, b[i] ^ 64, b[i] ^ 128, 255} {
			x := bytes.Clone(b)
			x[i] = c
			l = append(l, x)
		}
		l = append(l, bytes.Clone(b[:i]), slices.Delete(bytes.Clone(b), i, i+1), slices.Insert(bytes.Clone(b), i, 0), slices.Insert(bytes.Clone(b), i, b[i]))
	}
	return append(l, append(bytes.Clone(b), 0), append(bytes.Clone(b), 1), append(bytes.Clone(b), b...), append(bytes.Clone(b), make([]byte, 12)...))
}

// TestChangedPictures opens pictures with something changed.
func TestChangedPictures(t *testing.T) {
	for i, x := range []*pair{paired(t, conf(12), "empty"), scene(t, 12)} {
		good := 0
		for k, b := range changes(x.p.fold()) {
			if sameOpen(t, 12, b, nil, "picture", i, "change", k) {
				good++
			}
		}
		if good == 0 || i > 0 && good < 50 {
			t.Errorf("P13.1: picture %d: %d that are some", i, good)
		}
	}
}

// TestChangedRecords opens records with something changed, the first, the last, and
// such as stand behind a picture.
func TestChangedRecords(t *testing.T) {
	x := scene(t, 12)
	for i := range x.p.store.records {
		for k, b := range changes(x.p.store.records[i]) {
			l := slices.Clone(x.p.store.records)
			l[i] = b
			sameOpen(t, 12, nil, l, "record", i, "change", k)
		}
	}
	behind := laidRecord(1, 3, 500, batch(2, give(0, 1), lock(2, 3, "u", 600)))
	for k, b := range changes(behind) {
		sameOpen(t, 12, x.p.fold(), [][]byte{b}, "behind a picture, change", k)
	}
}

// lasts answers a picture of the scene's ledger, and of what a third party is told
// to have been answered last.
func lasts(x *pair, of ...byte) []byte {
	b := x.p.fold()
	return append(b[:len(b)-4], of...)
}

// told is what a picture has of one party's last answer.
func told(seq, clock, seen, batchSeen int, l ...req.Reply) []byte {
	return laidReplies(number(number(number(number(nil, seq, 4), clock, 8), seen, 2), batchSeen, 2), l)
}

// TestPictureEdges sets each number of a last answer to either side of its bounds.
func TestPictureEdges(t *testing.T) {
	x := scene(t, 12)
	clock, events := x.p.l.Clock(), len(x.p.l.Events())
	if clock != 11 || events != 5 {
		t.Fatalf("the scene: %d, %d", clock, events)
	}
	is := func(want bool, of []byte, what ...any) {
		t.Helper()
		if got := sameOpen(t, 12, lasts(x, of...), nil, what...); got != want {
			t.Errorf("P13.1: %v: opened %t", what, got)
		}
	}
	is(true, make([]byte, 4), "never asked")
	for _, seq := range []int{1, 2, 255, 256, 65536, topmost - 1, topmost} {
		is(true, told(seq, clock, events, 0), "Last", seq)
	}
	for _, n := range []int{0, 1, 10, 11, 12, 255, 256, 267, final, final + 1, 1 << 41, 1 << 62, 1<<62 + 1, 1<<63 - 1, -1 << 63, -1} {
		is(n >= 0 && n <= clock, told(1, n, events, 0), "Clock", n)
	}
	for _, n := range []int{0, 1, 4, 5, 6, 12, 255, 256, 261, 65535} {
		is(n <= events, told(1, clock, n, 0), "Seen", n)
		is(true, told(1, clock, events, n), "the batch's Seen", n)
		for _, k := range []int{0, 3, n, n + 1} {
			is(n <= events, told(1, clock, n, min(k, 65535)), "both", n, k)
		}
	}
	for n := range 256 {
		l := slices.Repeat([]req.Reply{{Code: 7}, {ID: 3}}, n)[:n]
		is(n <= 64, told(1, clock, events, 0, l...), "Replies", n)
		is(true, told(1, clock, events, 0, req.Reply{Code: api.Errno(n), ID: n}), "a Code", n)
	}
	for _, n := range []int{0, 1, 255, 256, 65535} {
		is(true, told(1, clock, events, 0, req.Reply{ID: n}, req.Reply{Code: 255, ID: n}), "an ID", n)
	}
	// Bytes of an answer behind a number that is none.
	is(false, append(make([]byte, 4), told(1, clock, events, 0)[4:]...), "Last 0 with an answer")
	is(false, make([]byte, 8), "a party more")
	is(false, nil, "a party less")
	is(false, make([]byte, 3), "three bytes of a number")
}

// TestLength: the length ahead of the ledger's Save is as it is.
func TestLength(t *testing.T) {
	x := scene(t, 12)
	b := x.p.fold()
	size := len(b)
	saved, _ := x.p.l.Save()
	for _, n := range []int{0, 1, len(saved) - 1, len(saved), len(saved) + 1, len(saved) + 256, len(saved) + 65536, size - 5, size - 4, size - 3, size, 1<<31 - 1, 1 << 31, topmost} {
		c := append(number(nil, n, 4), b[4:]...)
		if got := sameOpen(t, 12, c, nil, "length", n); got != (n == len(saved)) {
			t.Errorf("P13.1: length %d: opened %t", n, got)
		}
	}
	for _, b := range [][]byte{{}, {0}, {0, 0, 0}, {0, 0, 0, 0}, {0, 0, 0, 1}, {255, 255, 255, 255}, make([]byte, 22), make([]byte, 26), make([]byte, 1000)} {
		if sameOpen(t, 12, b, nil, "bytes", len(b)) {
			t.Errorf("P13.1: %x is a picture", b)
		}
	}
}

// TestRecordEdges sets each number of a record to either side of its bounds.
func TestRecordEdges(t *testing.T) {
	x := scene(t, 12)
	is := func(want bool, l ...[]byte) {
		t.Helper()
		if got := sameOpen(t, 12, x.p.fold(), l, l); got != want {
			t.Errorf("P13.1: %x: opened %t", l, got)
		}
	}
	good := batch(0, give(1, 1))
	for _, party := range []int{0, 1, 2, 3, 4, 15, 16, 128, 255} {
		is(party == 0, laidRecord(party, 4, 11, good))
		is(party == 1, laidRecord(party, 3, 11, good))
		is(party == 2, laidRecord(party, 1, 11, good))
	}
	for _, seq := range []int{0, 1, 2, 3, 4, 5, 255, 256, 260, 65540, topmost} {
		is(seq == 4, laidRecord(0, seq, 11, good))
		is(seq == 4, laidRecord(2, 1, 11, good), laidRecord(0, seq, 11, good))
		is(seq == 5, laidRecord(0, 4, 11, good), laidRecord(0, seq, 11, good))
		is(seq == 1, laidRecord(2, seq, 11, good))
	}
	for _, clock := range []int{0, 1, 10, 11, 12, 255, 256, 267, final - 1, final, final + 1, 1 << 62, 1<<62 + 1, -1} {
		is(clock >= 11 && clock <= final, laidRecord(0, 4, clock, good))
		is(clock >= 20 && clock <= final, laidRecord(0, 4, 20, good), laidRecord(0, 5, clock, good))
	}
	many := slices.Repeat([]req.Req{give(1, 0)}, 64)
	is(true, laidRecord(0, 4, 11, batch(65535, many...)))
	is(false, laidRecord(0, 4, 11, append(append([]byte{0, 0, 65}, batch(0, many...)[3:]...), batch(0, give(1, 0))[3:]...)))
	is(false, laidRecord(0, 4, 11, nil))
	is(false, laidRecord(0, 4, 11, append(bytes.Clone(good), 0)))
	is(false, laidRecord(0, 4, 11, good[:len(good)-1]))
	is(false, laidRecord(0, 4, 11, good)[:12])
	is(false, nil)
	is(false, laidRecord(0, 4, 11, good), nil)
	is(false, laidRecord(0, 4, 11, good), laidRecord(0, 4, 11, good))
	// All that comes behind one that is none is not looked at.
	is(false, nil, laidRecord(0, 4, 11, good))
	// The greatest number, and none behind it.
	b := lasts(x, told(topmost-1, 11, 5, 0)...)
	top := laidRecord(2, topmost, 11, good)
	if !sameOpen(t, 12, b, [][]byte{top}, "the greatest number") {
		t.Error("P13.1: the greatest number is none")
	}
	for _, seq := range []int{0, 1, topmost} {
		if sameOpen(t, 12, b, [][]byte{top, laidRecord(2, seq, 11, good)}, "behind the greatest number") {
			t.Errorf("P13.1: %d is behind the greatest number", seq)
		}
	}
}
