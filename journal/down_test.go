package journal

import (
	"testing"

	"counterfoil/api"
	"counterfoil/frame"
	"counterfoil/sha"
)

// asks are Bodies of each kind: that fit, that don't, and that are too long.
func asks() [][]byte {
	return [][]byte{nil, {}, []byte("a"), body(40), body(60000), body(60001), make([]byte, 1<<17)}
}

// isDown holds that each call answers ErrDown, and that j tells what it told.
func isDown(t *testing.T, j *Journal, want told, what string) {
	t.Helper()
	for range 2 {
		for _, b := range asks() {
			if e := j.Append(b); e != api.ErrDown {
				t.Fatalf("P8.2: %s: Append of %d bytes: %d", what, len(b), e)
			}
			if e := j.Compact(b); e != api.ErrDown {
				t.Fatalf("P8.3: %s: Compact of %d bytes: %d", what, len(b), e)
			}
			if got := tells(j); !same(got, want) {
				t.Fatalf("P8.2: %s: %v, not %v", what, got, want)
			}
		}
	}
}

// used answers a pair with a picture and records, in a half with some room.
func used(t *testing.T) *pair {
	t.Helper()
	x := paired(t, 20, "used")
	x.must(x.append([]byte("old")), api.OK)
	x.must(x.compact([]byte("p")), api.OK)
	x.must(x.append([]byte("a")), api.OK)
	x.must(x.append(body(60)), api.OK)
	return x
}

// TestOpenedDown opens a disk that is down: nothing is told, and each call
// answers ErrDown, even when the disk is up again.
func TestOpenedDown(t *testing.T) {
	for _, n := range []int{1, 2, 3, 20} {
		d := made(t, n)
		Open(sha.NewTable(), d).Append([]byte("a"))
		d.Fuse(0)
		d.Sync()
		j := Open(sha.NewTable(), d)
		isDown(t, j, told{}, "opened down")
		d.Crash(nil)
		isDown(t, j, told{}, "opened down, and up again")
		if d.Pending() > 0 {
			t.Errorf("P8.2: %d pending", d.Pending())
		}
	}
	x := used(t)
	x.lose()
	j := Open(x.table, x.d)
	isDown(t, j, told{}, "a used one, opened down")
	x.crash(nil)
	isDown(t, j, told{}, "a used one, up again")
	// The one that was opened ahead was not told of it.
	x.must(x.append([]byte("b")), api.OK)
	x.is(1, 5, "picture p", "a", string(body(60)), "b")
	x.open()
	x.is(1, 5, "picture p", "a", string(body(60)), "b")
}

// lose takes the disks down, by calls of neither Journal.
func (x *pair) lose() {
	x.t.Helper()
	x.fuse(0)
	x.must(x.d.Sync(), api.ErrDown)
	x.must(x.p.d.Sync(), api.ErrDown)
}

// TestGoesDown takes the disk down behind Open: by somebody else's call, and by
// the Journal's own ones.
func TestGoesDown(t *testing.T) {
	for what, lost := range map[string]func(x *pair){
		"another one's call": func(x *pair) { x.lose() },
		"an Append":          func(x *pair) { x.fuse(0); x.must(x.append(nil), api.ErrDown) },
		"an Append's Sync":   func(x *pair) { x.fuse(1); x.must(x.append(nil), api.ErrDown) },
		"a long Append":      func(x *pair) { x.fuse(2); x.must(x.append(body(90)), api.ErrDown) },
		"a Compact":          func(x *pair) { x.fuse(0); x.must(x.compact(nil), api.ErrDown) },
		"a Compact's Sync":   func(x *pair) { x.fuse(1); x.must(x.compact(nil), api.ErrDown) },
		"a long Compact":     func(x *pair) { x.fuse(3); x.must(x.compact(body(90)), api.ErrDown) },
	} {
		x := used(t)
		want := tells(x.j)
		lost(x)
		isDown(t, x.j, want, what)
		x.p.down = true // what isDown asks, it asks of the Journal alone
		x.crash(nil)
		isDown(t, x.j, want, what+", and up again")
		x.d.Sync()
		isDown(t, x.j, want, what+", and behind a Sync")
		if x.d.Pending() > 0 {
			t.Errorf("P8.2: %s: %d pending", what, x.d.Pending())
		}
		x.open()
		if !same(tells(x.j), want) {
			t.Errorf("P8.5: %s: %v, not %v", what, tells(x.j), want)
		}
		goesOn(x)
	}
}

// TestToldOnce: one call of either kind is enough to be told, whatever was asked
// by it.
func TestToldOnce(t *testing.T) {
	for _, b := range asks() {
		for _, compact := range []bool{false, true} {
			x := used(t)
			want := tells(x.j)
			x.lose()
			if compact {
				x.must(x.compact(b), api.ErrDown)
			} else {
				x.must(x.append(b), api.ErrDown)
			}
			x.crash(nil)
			isDown(t, x.j, want, "told once")
		}
	}
}

// TestNotTold: a disk that was down while no call was made is as any other one.
func TestNotTold(t *testing.T) {
	x := used(t)
	want := tells(x.j)
	x.lose()
	if !same(tells(x.j), want) {
		t.Errorf("P8.2: while it is down: %v", tells(x.j))
	}
	x.crash(nil)
	x.must(x.append([]byte("b")), api.OK)
	x.is(1, 5, "picture p", "a", string(body(60)), "b")
	x.lose()
	x.crash(nil)
	x.must(x.compact([]byte("q")), api.OK)
	x.is(2, 9, "picture q")
	x.open()
	x.is(2, 9, "picture q")
}

// TestDownFirst: without power that comes first, ahead of all else that is
// wrong.
func TestDownFirst(t *testing.T) {
	for _, n := range []int{1, 2, 3, 8} {
		x := paired(t, n, "down, and full")
		x.append([]byte("a"))
		x.frame(0, frame.Frame{Kind: 1, Gen: 1<<32 - 1})
		x.open()
		want := tells(x.j)
		x.lose()
		isDown(t, x.j, want, "down, and full")
	}
}

// TestRefusedIsNotTold: an error that is not of the power does not end it.
func TestRefusedIsNotTold(t *testing.T) {
	x := used(t)
	for _, b := range [][]byte{body(60000), body(60001)} {
		x.must(x.append(b), []api.Errno{api.ErrFull, api.ErrLong}[len(b)-60000])
		x.must(x.compact(b), []api.Errno{api.ErrFull, api.ErrLong}[len(b)-60000])
	}
	goesOn(x)
}
