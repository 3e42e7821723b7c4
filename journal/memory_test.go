package journal

import (
	"bytes"
	"slices"
	"testing"

	"counterfoil/api"
	"counterfoil/sha"
)

// spoil turns b, and its spare room.
func spoil(b []byte) {
	b = b[:cap(b)]
	for i := range b {
		b[i] ^= 0xff
	}
}

// small are lengths of Bodies of none to some sectors.
func small() []int { return []int{0, 1, 38, 39, 40, 41, 102, 103, 166, 300} }

// TestHandedInStays looks at what was handed in, and at what lies behind it,
// whatever the answer is.
func TestHandedInStays(t *testing.T) {
	for _, n := range append(small(), 2000, 60000, 60001) {
		for _, down := range []bool{false, true} {
			for _, call := range []func(j *Journal, b []byte) api.Errno{(*Journal).Append, (*Journal).Compact} {
				x := used(t)
				if down {
					x.lose()
				}
				room := body(n + 200)
				was := bytes.Clone(room)
				call(x.j, room[:n])
				if !bytes.Equal(room, was) {
					t.Errorf("P8.4: %d bytes were changed, or what lies behind them", n)
				}
			}
		}
	}
}

// TestBehindTheLength: what lies behind the length of what is handed in is in no
// sector, and in no answer.
func TestBehindTheLength(t *testing.T) {
	for _, n := range small() {
		x := paired(t, 60, "behind the length")
		room := bytes.Repeat([]byte{0xee}, n+100)
		x.must(x.append(room[:n]), api.OK)
		x.must(x.compact(room[:n:n]), api.OK)
		x.must(x.append(room[:n]), api.OK)
		x.open()
		x.is(1, 30-2*len(laid(rec(0, 0, 1, string(room[:n])).f)), "picture "+string(room[:n]), string(room[:n]))
	}
}

// TestHandedInIsNotKept turns what was handed in.
func TestHandedInIsNotKept(t *testing.T) {
	for _, n := range small() {
		x := paired(t, 60, "turned behind it")
		a, p, b := body(n), body(n+1), body(n+2)
		spoilBehind := func(call func([]byte) api.Errno, b []byte) {
			t.Helper()
			x.must(call(b), api.OK)
			spoil(b)
			x.holds()
		}
		spoilBehind(x.append, a)
		x.is(0, 30-len(laid(rec(0, 0, 1, string(body(n))).f)), string(body(n)))
		spoilBehind(x.compact, p)
		spoilBehind(x.append, b)
		if got := tells(x.j); !bytes.Equal(got.picture, body(n+1)) || !bytes.Equal(got.records[0], body(n+2)) {
			t.Errorf("P8.4: %d bytes are kept", n)
		}
		x.open()
		if got := tells(x.j); !bytes.Equal(got.picture, body(n+1)) || !bytes.Equal(got.records[0], body(n+2)) {
			t.Errorf("P8.4: %d bytes are kept by the disk", n)
		}
	}
}

// TestOneMemory hands one piece of memory in again and again.
func TestOneMemory(t *testing.T) {
	x := paired(t, 60, "one memory")
	b := make([]byte, 60)
	var want []string
	for i := range 10 {
		for k := range b {
			b[k] = byte('a' + i)
		}
		x.must(x.append(b[:6*i]), api.OK)
		want = append(want, string(b[:6*i]))
	}
	x.is(0, x.j.Room(), want...)
	x.must(x.compact(b[:9]), api.OK)
	clear(b)
	x.is(1, 29, "picture jjjjjjjjj")
	x.open()
	x.is(1, 29, "picture jjjjjjjjj")
}

// filled answers a Journal with a picture and records, and what it tells.
func filled(t *testing.T, opened bool) (*Journal, told) {
	t.Helper()
	table := sha.NewTable()
	d := made(t, 200)
	j := Open(table, d)
	want := told{pictured: true, picture: body(77), gen: 1, room: 98}
	j.Compact(body(77))
	for _, n := range small() {
		j.Append(body(n))
		want.records = append(want.records, body(n))
		want.room -= len(laid(rec(0, 0, 0, string(body(n))).f))
	}
	if opened {
		j = Open(table, d)
	}
	if !same(tells(j), want) {
		t.Fatalf("P8.1: %v, not %v", tells(j), want)
	}
	return j, want
}

// TestAnswersAreNew turns what is answered, by a Journal that wrote it and by one
// that read it: no other answer shows it.
func TestAnswersAreNew(t *testing.T) {
	for _, opened := range []bool{false, true} {
		j, want := filled(t, opened)
		for i := range want.records {
			kept, turned := tells(j), tells(j)
			spoil(turned.records[i])
			_ = append(turned.records[i], 1, 2, 3)
			if !same(kept, want) || !same(tells(j), want) {
				t.Fatalf("P8.4: opened %t: record %d is not new", opened, i)
			}
			turned.records[i] = want.records[i]
			if !same(turned, want) {
				t.Fatalf("P8.4: opened %t: record %d shares another one's memory", opened, i)
			}
			turned.records[i] = nil
			_ = append(turned.records[:0], body(3), body(4))
			if !same(kept, want) || !same(tells(j), want) {
				t.Fatalf("P8.4: opened %t: the list is not new", opened)
			}
		}
		kept, turned := tells(j), tells(j)
		spoil(turned.picture)
		if !same(kept, want) || !same(tells(j), want) || !slices.EqualFunc(turned.records, want.records, bytes.Equal) {
			t.Fatalf("P8.4: opened %t: the picture is not new", opened)
		}
		// What is answered stays as it was, whatever comes.
		j.Append(body(50))
		if !same(kept, want) {
			t.Fatalf("P8.4: opened %t: an answer shows an Append", opened)
		}
		j.Compact(body(51))
		j.Append(body(52))
		if !same(kept, want) {
			t.Fatalf("P8.4: opened %t: an answer shows a Compact", opened)
		}
	}
}

// TestListHasNoRoomInCommon appends to a list of records: neither the Journal
// nor another list shows it.
func TestListHasNoRoomInCommon(t *testing.T) {
	for _, opened := range []bool{false, true} {
		j, want := filled(t, opened)
		one, two := j.Records(), j.Records()
		one = append(one, []byte("one"))
		two = append(two, []byte("two"))
		if e := j.Append([]byte("three")); e != api.OK {
			t.Fatalf("P8.2: %d", e)
		}
		three := j.Records()
		for i, l := range [][][]byte{one, two, three} {
			if len(l) != len(want.records)+1 || string(l[len(l)-1]) != []string{"one", "two", "three"}[i] {
				t.Errorf("P8.4: opened %t: list %d: %q", opened, i, l[len(l)-1])
			}
		}
	}
}

// TestAnswersAsArguments hands in what was answered.
func TestAnswersAsArguments(t *testing.T) {
	x := used(t)
	for range 3 {
		l := x.j.Records()
		p, _ := x.j.Picture()
		x.must(x.append(p), api.OK)
		x.must(x.compact(l[0]), api.OK)
		x.must(x.append(l[1]), api.OK)
		x.must(x.append(x.j.Records()[0]), api.OK)
		x.open()
		for _, b := range append(l, p) {
			spoil(b)
		}
		x.holds()
	}
}

// TestNothingBeside: where there is no picture, there are no bytes beside the
// false.
func TestNothingBeside(t *testing.T) {
	x := paired(t, 20, "nothing beside")
	x.must(x.append([]byte("a")), api.OK)
	for range 2 {
		if b, ok := x.j.Picture(); ok || len(b) > 0 {
			t.Errorf("P8.1: %x, %t", b, ok)
		}
		x.open()
	}
	x.lose()
	j := Open(x.table, x.d)
	if b, ok := j.Picture(); ok || len(b) > 0 || len(j.Records()) > 0 || j.Gen() != 0 || j.Room() != 0 {
		t.Errorf("P8.1: opened down: %x, %t, %d records, Gen %d, Room %d", b, ok, len(j.Records()), j.Gen(), j.Room())
	}
}
