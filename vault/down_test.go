package vault

import (
	"bytes"
	"fmt"
	"math"
	"slices"
	"testing"

	"counterfoil/api"
	"counterfoil/req"
)

// ready is the i-th of the pairs as they may stand ahead of a batch: with room for
// it, and without, and behind one that was cut off.
func ready(t *testing.T, i int) *pair {
	t.Helper()
	x := scene(t, 12)
	switch i {
	case 0:
		x.what = "records"
	case 1:
		x.what = "an empty disk"
		x = paired(t, conf(12), x.what)
	case 2:
		x.what = "a full half"
		x.cram(0)
	case 3:
		x.what = "a full half with a picture"
		x.cram(0)
		x.next(0, 30)
		x.cram(0)
	case 4:
		x.what = "a picture, and room"
		x.cram(0)
		x.next(0, 30)
	case 5:
		x.what = "behind a batch that was cut off"
		x.fuse(4)
		x.refused(13, 2, 1, 40, batch(0, lock(1, 1, "z", 90), lock(1, 1, "z", 90), lock(1, 1, "z", 90)))
		x.crash([]bool{true, true, true})
		x.open()
	case 6:
		x.what = "behind a picture that was cut off"
		x.cram(0)
		x.fuse(3)
		x.refused(13, 2, 1, 40, batch(0))
		x.crash([]bool{true, false, true})
		x.open()
	}
	return x
}

// readies is how many of them there are.
const readies = 7

// cram leaves no more room than so many sectors, by batches of which all is refused.
func (x *pair) cram(most int) {
	x.t.Helper()
	for {
		left := x.p.half - x.p.store.used() - most
		if left <= 0 {
			return
		}
		x.next(0, 0, slices.Repeat([]req.Req{lock(0, 1, "c", 1)}, min(64, (left-1)*63/51))...)
	}
}

// asked are batches of one sector to four.
func asked() []req.Batch {
	z := lock(1, 1, "z", 900)
	return []req.Batch{{}, {Seen: 2, Reqs: []req.Req{give(1, 3), give(1, 1)}}, {Seen: 9, Reqs: []req.Req{z, z, give(0, 1)}}, {Reqs: []req.Req{z, z, z}}}
}

// choices are all that a Crash may keep of n sectors, and what is too short, or too
// long.
func choices(n int) [][]bool {
	l := [][]bool{nil, slices.Repeat([]bool{true}, n+3)}
	for bits := range 1 << n {
		keep := make([]bool, n)
		for k := range keep {
			keep[k] = bits>>k&1 > 0
		}
		l = append(l, keep)
	}
	return l
}

// TestCutOff lets the power go at each Write and Sync of a batch, of the picture
// ahead of it too, with each choice of what is kept.
func TestCutOff(t *testing.T) {
	for i := range readies {
		t.Run(fmt.Sprint(i), func(t *testing.T) {
			t.Parallel()
			for k := range asked() {
				for fuse := 0; !cuts(t, i, k, fuse); fuse++ {
				}
			}
		})
	}
}

// cuts does it with one fuse, and tells if that was long enough.
func cuts(t *testing.T, i, k, fuse int) bool {
	t.Helper()
	done := false
	for c := range choices(4) {
		done = cut(t, i, k, fuse, c)
	}
	return done
}

// cut asks for the k-th batch of the i-th pair, with a fuse, and keeps the c-th
// choice. It tells if the fuse was long enough.
func cut(t *testing.T, i, k, fuse, c int) bool {
	t.Helper()
	x := ready(t, i)
	x.what = fmt.Sprintf("%s, batch %d, fuse %d, choice %d", x.what, k, fuse, c)
	b := batch(asked()[k].Seen, asked()[k].Reqs...)
	ahead, seq := x.p.fold(), x.p.last(0)+1
	x.fuse(fuse)
	_, e := x.handle(0, seq, 50, b)
	if e == api.OK {
		x.crash(choices(4)[c])
		behind := x.p.fold()
		x.open()
		if !bytes.Equal(x.p.fold(), behind) {
			t.Fatalf("P13.5: %s: what was answered is not there", x.what)
		}
		x.goesOn(seq, b)
		return true
	}
	x.isDown(seq, b)
	dead := x.v
	x.crash(choices(4)[c])
	for range 2 {
		x.open()
		// Whole, or not at all.
		if got := x.p.fold(); (x.p.last(0) == seq) == bytes.Equal(got, ahead) {
			t.Fatalf("P13.5: %s: Last %d", x.what, x.p.last(0))
		}
		x.d.Crash(nil) // a crash while it opens
	}
	x.goesOn(seq, b)
	if _, e := dead.Handle(0, seq, 50, b); e != 13 || !dead.Down() {
		t.Fatalf("P13.2: %s: a Vault is up again: %d", x.what, e)
	}
	return false
}

// isDown holds that each call answers ErrDown, whatever is asked, and that nothing
// else is changed.
func (x *pair) isDown(seq int, b []byte) {
	x.t.Helper()
	if !x.v.Down() {
		x.t.Fatalf("P13.2: %s: not Down", x.what)
	}
	for _, n := range []int{seq - 1, seq, seq + 1} {
		x.refused(13, 0, n, 60, b)
	}
	x.refused(13, 1, 1, 60, b)
	x.refused(13, 3, seq, 60, b)
	x.refused(13, -1, 0, math.MinInt, nil)
	x.refused(13, 0, seq, 60, nil)
}

// goesOn asks for the same number again: it is done once, and answered as it was,
// or as it would have been. Then others are handled.
func (x *pair) goesOn(seq int, b []byte) {
	x.t.Helper()
	var was []byte
	for range 3 {
		got, e := x.handle(0, seq, 50, b)
		if e != api.OK || x.p.last(0) != seq || was != nil && !bytes.Equal(was, got) {
			x.t.Fatalf("P13.5: %s: the same number: %x, %d", x.what, got, e)
		}
		was = got
		x.open()
	}
	x.next(1, 70, give(0, 1))
	x.next(0, 71, give(1, 1))
	x.open()
}

// TestCutOffTwice cuts one batch off, opens, and cuts it off again.
func TestCutOffTwice(t *testing.T) {
	for i := range readies {
		t.Run(fmt.Sprint(i), func(t *testing.T) {
			t.Parallel()
			for _, k := range []int{0, 2} {
				for bits := range 4 {
					for fuses := range 64 {
						cutTwice(t, i, k, []int{fuses % 8, fuses / 8}, []bool{bits&1 > 0, bits&2 > 0})
					}
				}
			}
		})
	}
}

func cutTwice(t *testing.T, i, k int, fuses []int, keep []bool) {
	t.Helper()
	x := ready(t, i)
	x.what = fmt.Sprintf("%s, batch %d, fuses %v, kept %v", x.what, k, fuses, keep)
	b := batch(asked()[k].Seen, asked()[k].Reqs...)
	seq := x.p.last(0) + 1
	other, _ := opened(x.c, x.p.store, x.p.half)
	want, _ := other.handle(0, seq, 50, b)
	for n := range fuses {
		x.fuse(fuses[n])
		x.handle(0, seq, 50, b)
		x.crash(slices.Repeat([]bool{keep[n]}, 9))
		x.open()
	}
	if got, e := x.handle(0, seq, 50, b); e != api.OK || !bytes.Equal(got, want) || x.p.last(0) != seq {
		t.Fatalf("P13.5: %s: %x, %d, not %x", x.what, got, e, want)
	}
	x.goesOn(seq, b)
}

// TestNotTold: a Vault over a disk that went down by somebody else's call is not
// Down until a call is told so; one that is up again goes on.
func TestNotTold(t *testing.T) {
	lose := func(x *pair) {
		x.fuse(0)
		x.d.Sync()
		x.p.dark = true
	}
	x := scene(t, 12)
	lose(x)
	x.refused(0, 0, 3, 50, nil)
	x.refused(14, 3, 1, 50, batch(0))
	x.refused(5, 0, 3+2, 50, batch(0))
	x.refused(2, 0, 4, 50, nil)
	if x.v.Down() {
		t.Error("P13.1: Down, and no call was told so")
	}
	x.crash(nil)
	x.next(0, 51, give(1, 1))
	x.open()
	lose(x)
	x.refused(13, 0, 5, 52, batch(0))
	if !x.v.Down() {
		t.Error("P13.1: not Down")
	}
	x.isDown(5, batch(0))
	x.crash(nil)
	x.isDown(5, batch(0))
	x.open()
	x.next(0, 52, give(1, 1))
}
