package disk

import (
	"math"
	"slices"
	"testing"

	"counterfoil/api"
)

// below are fuses that are none.
func below() []int {
	return []int{-1, -2, -3, -64, -1 << 32, math.MinInt + 1, math.MinInt}
}

// call is a Write of text c to sector i, or a Sync where i is below 0.
func call(d *Disk, i, c int) api.Errno {
	if i < 0 {
		return d.Sync()
	}
	return d.Write(i, text(c))
}

// TestFuseExample: Fuse(0), then Write: ErrDown; Down.
func TestFuseExample(t *testing.T) {
	d := made(t, 1)
	d.Fuse(0)
	if d.Down() {
		t.Error("P6.1: Down ahead of a call that finds the fuse")
	}
	if e := d.Write(0, text(1)); e != api.ErrDown || !d.Down() {
		t.Errorf("P6.1: Write at a fuse of 0: %d, Down %t", e, d.Down())
	}
	isDown(t, d, 1, 0, "the example")
}

// TestFuse lets each number of Writes and Syncs through, in each order, and
// takes the next one: it writes nothing, and makes nothing last.
func TestFuse(t *testing.T) {
	for n := range 6 {
		for order := range 1 << (n + 1) {
			d, now := filled(t, 2)
			was, pending := slices.Clone(now), 0
			d.Fuse(n)
			for k := range n {
				if order>>k&1 > 0 {
					put(t, d, now, 1, k)
					pending = 1
				} else {
					synced(t, d)
					was, pending = slices.Clone(now), 0
				}
				holds(t, d, now, pending, "fuse", n, order, k)
			}
			// A Write where no other one was: one that is done is told by Pending.
			last := -1
			if order>>n&1 > 0 {
				last = 0
			}
			if e := call(d, last, 50); e != api.ErrDown {
				t.Fatalf("P6.1: fuse %d, order %b: %d behind it", n, order, e)
			}
			isDown(t, d, 2, pending, "fuse", n, order)
			if order%3 == 0 {
				d.Crash(all(2))
				holds(t, d, now, 0, "fuse, and all is kept", n, order)
			} else {
				d.Crash(nil)
				holds(t, d, was, 0, "fuse, and nothing is kept", n, order)
			}
		}
	}
}

// TestFuseAtWritten takes a Write to a sector that is pending: it stays as it
// was written ahead of that.
func TestFuseAtWritten(t *testing.T) {
	d, want := filled(t, 2)
	d.Fuse(1)
	put(t, d, want, 1, 1)
	if e := d.Write(1, text(2)); e != api.ErrDown {
		t.Errorf("P6.1: Write at a fuse of 0: %d", e)
	}
	isDown(t, d, 2, 1, "a sector that is pending")
	d.Crash([]bool{true})
	holds(t, d, want, 0, "as it was written last")
}

// TestRefused: a Write that is refused takes nothing off the fuse, and does not
// find it; nor does a call that only asks.
func TestRefused(t *testing.T) {
	for n := range 4 {
		d, want := filled(t, 2)
		refuse := func() {
			for _, i := range nones(2) {
				if e := d.Write(i, text(1)); e != api.ErrRange {
					t.Errorf("P6.1: fuse %d: Write(%d): %d", n, i, e)
				}
			}
			for _, b := range wrongs() {
				if e := d.Write(0, b); e != api.ErrForm {
					t.Errorf("P6.1: fuse %d: Write of %d bytes: %d", n, len(b), e)
				}
				if e := d.Write(2, b); e != api.ErrRange {
					t.Errorf("P6.1: fuse %d: Write(2) of %d bytes: %d", n, len(b), e)
				}
			}
			d.Read(-1)
			d.Read(2)
		}
		d.Fuse(n)
		refuse()
		for k := range n {
			holds(t, d, want, min(k, 1), "refused", n, k)
			put(t, d, want, 1, k)
			refuse()
		}
		holds(t, d, want, min(n, 1), "refused", n)
		if e := d.Sync(); e != api.ErrDown {
			t.Errorf("P6.1: fuse %d: Sync behind %d Writes: %d", n, n, e)
		}
	}
}

// TestFuseAnew sets a fuse where one is set, is used up in part, or is 0: the
// new one holds.
func TestFuseAnew(t *testing.T) {
	for first := range 4 {
		for used := range first + 1 {
			for second := range 4 {
				d, want := filled(t, 1)
				d.Fuse(first)
				for c := range used {
					put(t, d, want, 0, c)
				}
				d.Fuse(second)
				for c := range second {
					put(t, d, want, 0, 10+c)
				}
				if e := d.Write(0, text(50)); e != api.ErrDown || !d.Down() {
					t.Errorf("P6.1: fuse %d, %d used, set to %d: %d", first, used, second, e)
				}
			}
		}
	}
}

// TestFuseTakenAway: below 0 there is none, however many calls come.
func TestFuseTakenAway(t *testing.T) {
	for _, n := range below() {
		for first := range 3 {
			d, want := filled(t, 1)
			d.Fuse(first)
			d.Fuse(n)
			for c := range 100 {
				put(t, d, want, 0, c)
				holds(t, d, want, 1, "no fuse", n, first)
				synced(t, d)
			}
		}
		d, want := filled(t, 1)
		d.Fuse(n)
		put(t, d, want, 0, 1)
		holds(t, d, want, 1, "none taken away", n)
	}
}

// TestLongFuse: a fuse that is far off is one.
func TestLongFuse(t *testing.T) {
	for _, n := range []int{255, 256, 1000, 1 << 16} {
		d, want := filled(t, 1)
		d.Fuse(n)
		for c := range n {
			if e := call(d, c%2-1, c); e != api.OK {
				t.Fatalf("P6.1: fuse %d: %d at %d", n, e, c)
			}
		}
		if e := d.Sync(); e != api.ErrDown {
			t.Errorf("P6.1: fuse %d: %d behind it", n, e)
		}
		d.Fuse(math.MaxInt)
		d.Crash(nil)
		d.Fuse(math.MaxInt)
		for c := range 300 {
			put(t, d, want, 0, c)
			synced(t, d)
		}
		holds(t, d, want, 0, "the longest fuse", n)
	}
}

// TestDownStays: a fuse, set or taken away, does not raise a Disk, and a Crash
// does.
func TestDownStays(t *testing.T) {
	for _, n := range append(below(), 0, 1, 2, 100, math.MaxInt) {
		for i := -1; i < 2; i++ {
			d, want := filled(t, 2)
			was := slices.Clone(want)
			put(t, d, want, 1, 1)
			d.Fuse(0)
			if e := call(d, i, 2); e != api.ErrDown {
				t.Errorf("P6.1: a fuse of 0: %d", e)
			}
			d.Fuse(n)
			isDown(t, d, 2, 1, "Fuse when Down", n, i)
			d.Crash([]bool{false, true})
			holds(t, d, was, 0, "Crash when Down", n, i)
			want = was
			for c := range 10 {
				put(t, d, want, 0, c)
				synced(t, d)
			}
			holds(t, d, want, 0, "P6.2: up, without a fuse", n, i)
		}
	}
}

// TestCrashTakesFuse: a Crash takes a fuse away that nothing found, of a Disk
// that is up, with nothing pending too.
func TestCrashTakesFuse(t *testing.T) {
	for n := range 4 {
		for pending := range 2 {
			d, want := filled(t, 1)
			if pending > 0 {
				put(t, d, want, 0, 5)
			}
			d.Fuse(n)
			d.Crash([]bool{true})
			for c := range 6 {
				put(t, d, want, 0, c)
				synced(t, d)
			}
			holds(t, d, want, 0, "P6.2: without a fuse", n, pending)
		}
	}
}

// TestDownTwice goes down again and again, with a Write at one time and a Sync
// at the next.
func TestDownTwice(t *testing.T) {
	d, want := filled(t, 2)
	for c := range 12 {
		d.Fuse(1)
		put(t, d, want, c%2, c)
		if e := call(d, c/2%2-1, 99); e != api.ErrDown {
			t.Fatalf("P6.1: time %d: %d", c, e)
		}
		isDown(t, d, 2, 1, "time", c)
		d.Crash([]bool{true})
		holds(t, d, want, 0, "P6.2: time", c)
		d.Crash([]bool{true, true})
		holds(t, d, want, 0, "P6.2: twice, time", c)
	}
}
