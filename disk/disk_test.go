package disk

import (
	"bytes"
	"math"
	"slices"
	"testing"

	"counterfoil/api"
)

// text answers 64 bytes, all of them others for each c.
func text(c int) []byte {
	b := make([]byte, 64)
	for i := range b {
		b[i] = byte(c*67 + i*3 + 1)
	}
	return b
}

// zeros are n sectors as New makes them.
func zeros(n int) [][]byte {
	l := make([][]byte, n)
	for i := range l {
		l[i] = make([]byte, 64)
	}
	return l
}

// made answers a Disk of n sectors.
func made(t *testing.T, n int) *Disk {
	t.Helper()
	d, e := New(n)
	if d == nil || e != api.OK {
		t.Fatalf("P6.1: New(%d): %d", n, e)
	}
	return d
}

// filled answers a Disk of n sectors that differ and last, and what they are.
func filled(t *testing.T, n int) (*Disk, [][]byte) {
	t.Helper()
	d, want := made(t, n), zeros(n)
	for i := range n {
		put(t, d, want, i, 100+i)
	}
	synced(t, d)
	return d, want
}

// put writes text c to sector i, and to the i-th of want.
func put(t *testing.T, d *Disk, want [][]byte, i, c int) {
	t.Helper()
	if e := d.Write(i, text(c)); e != api.OK {
		t.Fatalf("P6.1: Write(%d): %d", i, e)
	}
	want[i] = text(c)
}

// synced asks for a Sync that is let through.
func synced(t *testing.T, d *Disk) {
	t.Helper()
	if e := d.Sync(); e != api.OK {
		t.Fatalf("P6.1: Sync: %d", e)
	}
}

// holds asks a Disk that is up for all that it tells, twice: asking changes
// nothing.
func holds(t *testing.T, d *Disk, want [][]byte, pending int, what string, at ...any) {
	t.Helper()
	for range 2 {
		if d.Down() || d.Len() != len(want) || d.Pending() != pending {
			t.Fatalf("P6.2: %s %v: Down %t, Len %d, Pending %d, not %d", what, at, d.Down(), d.Len(), d.Pending(), pending)
		}
		for i := range want {
			if got, e := d.Read(i); e != api.OK || !bytes.Equal(got, want[i]) {
				t.Fatalf("P6.1: %s %v: Read(%d): %d, %x, not %x", what, at, i, e, got, want[i])
			}
		}
	}
}

// isDown asks a Disk that is Down for all: no call changes anything.
func isDown(t *testing.T, d *Disk, n, pending int, what string, at ...any) {
	t.Helper()
	for _, i := range append(nones(n), 0, n-1) {
		if got, e := d.Read(i); e != api.ErrDown || len(got) != 0 {
			t.Fatalf("P6.1: %s %v: Read(%d) when Down: %d, %x", what, at, i, e, got)
		}
		for _, b := range append(wrongs(), text(1)) {
			if e := d.Write(i, b); e != api.ErrDown {
				t.Fatalf("P6.1: %s %v: Write(%d) of %d bytes when Down: %d", what, at, i, len(b), e)
			}
		}
	}
	if e := d.Sync(); e != api.ErrDown {
		t.Fatalf("P6.1: %s %v: Sync when Down: %d", what, at, e)
	}
	if !d.Down() || d.Len() != n || d.Pending() != pending {
		t.Fatalf("P6.2: %s %v: Down %t, Len %d, Pending %d, not %d", what, at, d.Down(), d.Len(), d.Pending(), pending)
	}
}

// nones are sectors that a Disk of n does not have.
func nones(n int) []int {
	return []int{math.MinInt, math.MinInt + 1, -1 << 32, -n, -2, -1, n, n + 1, 2 * n, 1 << 32, 1<<32 + n - 1, math.MaxInt - 1, math.MaxInt}
}

// wrongs are texts that are no sector.
func wrongs() [][]byte {
	var l [][]byte
	for _, n := range []int{0, 1, 2, 32, 62, 63, 65, 66, 127, 128, 320} {
		l = append(l, make([]byte, n), bytes.Repeat([]byte{7}, n))
	}
	return append(l, nil, make([]byte, 63, 64), make([]byte, 0, 64))
}

// all is a keep of n that keeps all.
func all(n int) []bool { return slices.Repeat([]bool{true}, n) }

func TestNewOfNone(t *testing.T) {
	for _, n := range []int{math.MinInt, math.MinInt + 1, -1 << 32, -8192, -64, -2, -1, 0, 8193, 8194, 1 << 14, 1 << 32, 1<<32 + 1, math.MaxInt - 1, math.MaxInt} {
		if d, e := New(n); d != nil || e != api.ErrRange {
			t.Errorf("P6.1: New(%d): %d", n, e)
		}
	}
}

// TestNew: all sectors are bytes 0, nothing is pending, and there is no fuse.
func TestNew(t *testing.T) {
	for _, n := range []int{1, 2, 3, 63, 64, 65, 8191, 8192} {
		d := made(t, n)
		holds(t, d, zeros(n), 0, "New", n)
		d.Crash(nil)
		holds(t, d, zeros(n), 0, "New and Crash", n)
	}
	d, want := made(t, 1), zeros(1)
	for c := range 1000 {
		put(t, d, want, 0, c)
		holds(t, d, want, 1, "no fuse", c)
		synced(t, d)
		holds(t, d, want, 0, "no fuse", c)
	}
}

// TestNewLasts: what New made is there again behind a Crash.
func TestNewLasts(t *testing.T) {
	for _, n := range []int{1, 2, 8192} {
		d, want := made(t, n), zeros(n)
		put(t, d, want, 0, 1)
		put(t, d, want, n-1, 2)
		d.Crash(nil)
		holds(t, d, zeros(n), 0, "New, Write and Crash", n)
	}
}

// TestWrite writes each sector, rising and falling: no other one changes.
func TestWrite(t *testing.T) {
	for _, n := range []int{1, 2, 3, 9} {
		for first := range n {
			d, want := filled(t, n)
			for k := range n {
				i := (first + k) % n
				put(t, d, want, i, k)
				holds(t, d, want, k+1, "Write rising", n, i)
			}
			d, want = filled(t, n)
			for k := range n {
				i := (first - k + n) % n
				put(t, d, want, i, k)
				holds(t, d, want, k+1, "Write falling", n, i)
			}
		}
	}
}

// TestEdgesOfTheGreatest writes the first and the last sector of the greatest
// Disk, then all.
func TestEdgesOfTheGreatest(t *testing.T) {
	d, want := made(t, 8192), zeros(8192)
	put(t, d, want, 0, 5)
	holds(t, d, want, 1, "the first")
	put(t, d, want, 8191, 6)
	holds(t, d, want, 2, "the last")
	for i := range 8192 {
		put(t, d, want, i, i)
	}
	holds(t, d, want, 8192, "all")
	keep := all(8192)
	keep[4711] = false
	d.Crash(keep)
	want[4711] = make([]byte, 64)
	holds(t, d, want, 0, "all but one")
}

// TestWrittenTwice writes one sector again and again: it is pending once, and
// falls back to what it was ahead of the first one.
func TestWrittenTwice(t *testing.T) {
	for times := 2; times < 6; times++ {
		for i := range 3 {
			d, want := filled(t, 3)
			was := slices.Clone(want)
			for c := range times {
				put(t, d, want, i, c)
				holds(t, d, want, 1, "written again", i, c)
			}
			d.Crash([]bool{false})
			holds(t, d, was, 0, "written again, and lost", i)
			for c := range times {
				put(t, d, want, i, 10+c)
			}
			d.Crash([]bool{true})
			holds(t, d, want, 0, "written again, and kept", i)
			for c := range times {
				put(t, d, want, i, 20+c)
			}
			synced(t, d)
			d.Crash(nil)
			holds(t, d, want, 0, "written again, and synced", i)
		}
	}
}

// TestWrittenAsItWas: a sector is pending, too, that is written as it was.
func TestWrittenAsItWas(t *testing.T) {
	d, want := filled(t, 3)
	was := slices.Clone(want)
	put(t, d, want, 1, 101)
	holds(t, d, want, 1, "as it was")
	put(t, d, want, 2, 7)
	put(t, d, want, 2, 102)
	holds(t, d, want, 2, "turned back")
	put(t, d, want, 2, 8)
	d.Crash([]bool{true, false})
	holds(t, d, was, 0, "the second one is lost")
	put(t, d, want, 1, 101)
	put(t, d, want, 2, 8)
	d.Crash([]bool{false, true})
	holds(t, d, want, 0, "the second one is kept")
}

// TestSync: all that is pending lasts, and nothing else changes.
func TestSync(t *testing.T) {
	for set := range 1 << 4 {
		d, want := filled(t, 4)
		for i := range 4 {
			if set>>i&1 > 0 {
				put(t, d, want, i, i)
			}
		}
		for range 2 {
			synced(t, d)
			holds(t, d, want, 0, "Sync", set)
		}
		d.Crash([]bool{false, false, false, false})
		holds(t, d, want, 0, "Sync and Crash", set)
	}
}

// TestNoSector: nothing is told of none, and nothing changes.
func TestNoSector(t *testing.T) {
	for _, n := range []int{1, 2, 64, 8192} {
		d, want := filled(t, n)
		put(t, d, want, n-1, 3)
		for _, i := range nones(n) {
			if got, e := d.Read(i); e != api.ErrRange || len(got) != 0 {
				t.Errorf("P6.1: Read(%d) of %d: %d, %x", i, n, e, got)
			}
			for _, b := range append(wrongs(), text(4)) {
				if e := d.Write(i, b); e != api.ErrRange {
					t.Errorf("P6.1: Write(%d) of %d, %d bytes: %d", i, n, len(b), e)
				}
			}
		}
		holds(t, d, want, 1, "no sector", n)
	}
}

func TestNoText(t *testing.T) {
	d, want := filled(t, 3)
	put(t, d, want, 1, 3)
	for i := range 3 {
		for _, b := range wrongs() {
			if e := d.Write(i, b); e != api.ErrForm {
				t.Errorf("P6.1: Write(%d) of %d bytes: %d", i, len(b), e)
			}
		}
		holds(t, d, want, 1, "no text", i)
	}
}

// TestPlace writes texts of which one byte alone is not 0, and all bytes.
func TestPlace(t *testing.T) {
	d, want := made(t, 3), zeros(3)
	for at := range 64 {
		b := make([]byte, 64)
		b[at] = 255
		if e := d.Write(1, b); e != api.OK {
			t.Fatalf("P6.1: Write: %d", e)
		}
		want[1] = b
		holds(t, d, want, 1, "byte", at)
		d.Crash([]bool{true})
		holds(t, d, want, 0, "byte, kept", at)
	}
	for c := range 256 {
		want[2] = bytes.Repeat([]byte{byte(c)}, 64)
		if e := d.Write(2, want[2]); e != api.OK {
			t.Fatalf("P6.1: Write: %d", e)
		}
		holds(t, d, want, 1, "bytes", c)
	}
}

// TestCrash writes each set of sectors, falling, and keeps each choice of each
// length of them.
func TestCrash(t *testing.T) {
	const n = 4
	for set := range 1 << n {
		for length := range n + 2 {
			for kept := range 1 << length {
				keep := make([]bool, length)
				for k := range keep {
					keep[k] = kept>>k&1 > 0
				}
				crash(t, n, set, keep)
			}
		}
	}
}

// crash writes the sectors of set, and asks for all behind a Crash that keeps
// keep, and behind another one that keeps all.
func crash(t *testing.T, n, set int, keep []bool) {
	t.Helper()
	d, now := filled(t, n)
	was := slices.Clone(now)
	for i := n - 1; i >= 0; i-- {
		if set>>i&1 > 0 {
			put(t, d, now, i, i)
		}
	}
	want, pending := slices.Clone(was), 0
	for i := range n {
		if set>>i&1 == 0 {
			continue
		}
		if pending < len(keep) && keep[pending] {
			want[i] = now[i]
		}
		pending++
	}
	holds(t, d, now, pending, "ahead of Crash", set, keep)
	d.Crash(keep)
	holds(t, d, want, 0, "Crash", set, keep)
	d.Crash(all(n))
	holds(t, d, want, 0, "Crash again", set, keep)
	d.Crash(nil)
	holds(t, d, want, 0, "Crash a third time", set, keep)
}

// TestCrashByRising holds that keep is counted by the sectors' numbers, in
// whatever order they were written.
func TestCrashByRising(t *testing.T) {
	for _, order := range [][]int{{0, 1, 2}, {0, 2, 1}, {1, 0, 2}, {1, 2, 0}, {2, 0, 1}, {2, 1, 0}, {2, 0, 1, 2}, {0, 1, 2, 0}} {
		for k := range 3 {
			d, want := filled(t, 90)
			was := slices.Clone(want)
			for c, i := range order {
				put(t, d, want, 40*i+3, c)
			}
			keep := make([]bool, 3)
			keep[k] = true
			d.Crash(keep)
			was[40*k+3] = want[40*k+3]
			holds(t, d, was, 0, "rising", order, k)
		}
	}
}

// TestCrashOfMany has more pending than would stand in order by chance.
func TestCrashOfMany(t *testing.T) {
	for _, step := range []int{1, 7, 101} {
		d, now := filled(t, 1000)
		was := slices.Clone(now)
		var places []int
		for k := range 300 {
			i := k * step * 3 % 1000
			put(t, d, now, i, k)
			places = append(places, i)
		}
		slices.Sort(places)
		places = slices.Compact(places)
		keep := make([]bool, len(places))
		for k, i := range places {
			keep[k] = k*k%3 > 0
			if keep[k] {
				was[i] = now[i]
			}
		}
		holds(t, d, now, len(places), "many", step)
		d.Crash(keep)
		holds(t, d, was, 0, "Crash of many", step)
	}
}

// TestKeptLasts: what a Crash kept lasts through the next one.
func TestKeptLasts(t *testing.T) {
	d, want := filled(t, 2)
	put(t, d, want, 0, 1)
	d.Crash([]bool{true})
	put(t, d, want, 1, 2)
	d.Crash([]bool{true})
	holds(t, d, want, 0, "kept")
	was := slices.Clone(want)
	put(t, d, want, 0, 3)
	put(t, d, want, 1, 4)
	d.Crash([]bool{false, false, true})
	holds(t, d, was, 0, "lost")
}

// TestSyncedLasts: whatever is kept of the rest, what was synced is there, or
// what was written to it since.
func TestSyncedLasts(t *testing.T) {
	for kept := range 1 << 3 {
		for down := range 2 {
			d, want := filled(t, 6)
			for i := range 6 {
				put(t, d, want, i, i)
			}
			synced(t, d)
			now := slices.Clone(want)
			for _, i := range []int{5, 1, 2} {
				put(t, d, now, i, 50+i)
			}
			if down > 0 {
				d.Fuse(0)
				d.Sync()
			}
			keep := make([]bool, 3)
			for k, i := range []int{1, 2, 5} {
				if keep[k] = kept>>k&1 > 0; keep[k] {
					want[i] = now[i]
				}
			}
			d.Crash(keep)
			holds(t, d, want, 0, "P6.4: synced", kept, down)
		}
	}
}
