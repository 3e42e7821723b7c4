package journal

import (
	"testing"

	"counterfoil/api"
	"counterfoil/frame"
)

// TestCompact lays pictures of each edge, in the one half and in the other one,
// with records behind them.
func TestCompact(t *testing.T) {
	x := paired(t, 8192, "edges")
	for i, n := range sizes() {
		k := frame.Sectors(n)
		x.must(x.compact(body(n)), api.OK)
		x.is(i+1, 4096-k, "picture "+string(body(n)))
		x.must(x.append([]byte("a")), api.OK)
		x.must(x.append(body(n)), api.OK)
		x.is(i+1, 4096-2*k-1, "picture "+string(body(n)), "a", string(body(n)))
		x.open()
		x.is(i+1, 4096-2*k-1, "picture "+string(body(n)), "a", string(body(n)))
	}
}

// TestTurns lays pictures by turns, opened anew ahead of each one, or not.
func TestTurns(t *testing.T) {
	for _, anew := range []bool{false, true} {
		x := paired(t, 6, "turns")
		for gen := 1; gen < 300; gen++ {
			if anew {
				x.open()
			}
			p := string(rune('a' + gen%26))
			x.must(x.compact([]byte(p)), api.OK)
			x.is(gen, 2, "picture "+p)
			x.must(x.append([]byte("1")), api.OK)
			if gen%2 > 0 {
				x.must(x.append([]byte("2")), api.OK)
				x.must(x.append([]byte("3")), api.ErrFull)
			}
		}
	}
}

// TestBehindFull lays a picture behind a half that is full, with or without a
// picture of its own.
func TestBehindFull(t *testing.T) {
	x := paired(t, 8, "behind a full half")
	for gen := range 6 {
		for x.j.Room() > 0 {
			x.must(x.append([]byte("a")), api.OK)
		}
		x.must(x.append(nil), api.ErrFull)
		x.must(x.compact(body(229)), api.ErrFull)
		if gen%2 > 0 {
			x.must(x.compact(body(228)), api.OK)
			x.is(gen+1, 0, "picture "+string(body(228)))
			continue
		}
		x.must(x.compact([]byte("p")), api.OK)
		x.is(gen+1, 3, "picture p")
	}
}

// TestEmptyPicture: a picture of no bytes is one.
func TestEmptyPicture(t *testing.T) {
	for _, b := range [][]byte{nil, {}, make([]byte, 0, 9)} {
		x := paired(t, 4, "an empty picture")
		x.must(x.compact(b), api.OK)
		if p, ok := x.j.Picture(); !ok || len(p) > 0 {
			t.Errorf("P8.3: %x, %t", p, ok)
		}
		x.is(1, 1, "picture ")
		x.must(x.append(b), api.OK)
		x.is(1, 0, "picture ", "")
		x.open()
		x.is(1, 0, "picture ", "")
	}
}

// TestLastGen: there is no Gen behind 2^32 - 1.
func TestLastGen(t *testing.T) {
	for _, half := range []int{0, 6} {
		x := paired(t, 12, "the last Gen but two")
		x.frame(half, frame.Frame{Kind: 1, Gen: 1<<32 - 3, Body: []byte("p")})
		x.open()
		x.is(1<<32-3, 5, "picture p")
		x.must(x.compact([]byte("q")), api.OK)
		x.is(1<<32-2, 5, "picture q")
		x.must(x.append([]byte("a")), api.OK)
		x.must(x.compact([]byte("r")), api.OK)
		x.must(x.append([]byte("b")), api.OK)
		x.is(1<<32-1, 4, "picture r", "b")
		for _, n := range []int{0, 1, 39, 40, 354, 355, 60000} {
			x.must(x.compact(body(n)), api.ErrFull)
		}
		x.must(x.compact(body(60001)), api.ErrLong)
		x.is(1<<32-1, 4, "picture r", "b")
		x.open()
		x.is(1<<32-1, 4, "picture r", "b")
		x.must(x.compact(nil), api.ErrFull)
		for range 4 {
			x.must(x.append([]byte("c")), api.OK)
		}
		x.must(x.append([]byte("c")), api.ErrFull)
		// It is not written first, either.
		x.fuse(0)
		x.must(x.compact(nil), api.ErrFull)
		x.must(x.compact(body(60001)), api.ErrLong)
		x.fuse(-1)
		x.sync()
		// Without power that comes first.
		x.fuse(0)
		x.raw(0, make([]byte, 64))
		x.must(x.compact(nil), api.ErrDown)
		x.must(x.compact(body(60001)), api.ErrDown)
	}
}

// TestOtherHalf: of the one half that holds the other one is written, whatever
// stood there, and the one stays as it is.
func TestOtherHalf(t *testing.T) {
	for _, c := range []struct {
		l       []at
		from    int // where the picture has to go
		gen     int
		picture bool // whether the half that stays has one
	}{
		{nil, 6, 1, false},
		{[]at{rec(0, 0, 1, "a")}, 6, 1, false},
		{[]at{pic(0, 3, "p")}, 6, 4, true},
		{[]at{pic(6, 3, "p")}, 0, 4, true},
		{[]at{pic(6, 0, "p")}, 0, 1, true},
		{[]at{pic(0, 3, "p"), pic(6, 3, "q")}, 6, 4, true},
		{[]at{pic(0, 9, "p"), pic(6, 3, "q")}, 6, 10, true},
		{[]at{pic(0, 3, "p"), pic(6, 9, "q")}, 0, 10, true},
	} {
		x := paired(t, 12, "the other half")
		for _, a := range c.l {
			x.frame(a.i, a.f)
		}
		x.open()
		was := contents(t, x.d)
		long := body(200)
		x.must(x.compact(long), api.OK)
		x.is(c.gen, 2, "picture "+string(long))
		want := laid(frame.Frame{Kind: 1, Gen: c.gen, Body: long})
		for i, b := range contents(t, x.d) {
			if k := i - c.from; k >= 0 && k < len(want) {
				was[i] = want[k]
			}
			if string(b) != string(was[i]) {
				t.Errorf("P8.3: to %d: sector %d: %x", c.from, i, b)
			}
		}
		if got := halfOf(was[6-c.from:][:6]); got.pictured != c.picture {
			t.Errorf("P8.3: the half that stays: %v", got)
		}
	}
}
