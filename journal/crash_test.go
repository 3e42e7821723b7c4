package journal

import (
	"fmt"
	"math/rand"
	"slices"
	"testing"

	"counterfoil/api"
	"counterfoil/frame"
)

// ahead is the i-th of the pairs as they may stand ahead of a call that is cut
// off: with old sectors in either half, with a picture and without.
func ahead(t *testing.T, i int) *pair {
	t.Helper()
	x := paired(t, 21, "empty")
	switch i {
	case 1:
		x.what = "records"
		x.must(x.append([]byte("a")), api.OK)
		x.must(x.append(body(50)), api.OK)
	case 2:
		x.what = "a picture in the other half"
		x.must(x.append(body(200)), api.OK)
		x.must(x.append([]byte("a")), api.OK)
		x.must(x.compact([]byte("p")), api.OK)
		x.must(x.append([]byte("b")), api.OK)
	case 3:
		x.what = "a picture in either half"
		x.must(x.compact(body(70)), api.OK)
		for range 7 {
			x.must(x.append([]byte("old")), api.OK)
		}
		x.must(x.compact([]byte("q")), api.OK)
		x.must(x.append(body(45)), api.OK)
	case 4:
		x.what = "behind a record that was cut off"
		x.must(x.append([]byte("a")), api.OK)
		x.fuse(5)
		x.must(x.append(body(170)), api.ErrDown)
		x.crash(nil)
		x.open()
	case 5:
		x.what = "behind a picture that was cut off"
		x.must(x.append([]byte("a")), api.OK)
		x.fuse(5)
		x.must(x.compact(body(170)), api.ErrDown)
		x.crash(nil)
		x.open()
	}
	return x
}

// aheads is how many of them there are.
const aheads = 6

// choices are all that a Crash may keep of n pending sectors, and what is too
// short, or too long.
func choices(n int) [][]bool {
	l := [][]bool{nil, {true}, slices.Repeat([]bool{true}, n+2)}
	for bits := range 1 << n {
		keep := make([]bool, n)
		for k := range keep {
			keep[k] = bits>>k&1 > 0
		}
		l = append(l, keep)
	}
	return l
}

// after is what is told behind a call that was done.
func after(w told, compact bool, b []byte, half int) told {
	k := frame.Sectors(len(b))
	if compact {
		return told{true, b, nil, w.gen + 1, half - k}
	}
	w.records = append(slices.Clone(w.records), b)
	w.room -= k
	return w
}

// TestCutOff lets the power go at each write of an Append and of a Compact, with
// each choice of what is kept, and opens twice.
func TestCutOff(t *testing.T) {
	for i := range aheads {
		for _, compact := range []bool{false, true} {
			for _, n := range []int{0, 39, 40, 102, 103, 166, 228} {
				k := frame.Sectors(n)
				calls := k + 2 // Writes and Syncs
				if k == 1 {
					calls = 2
				}
				for fuse := range calls + 1 {
					for c := range choices(k) {
						cut(t, i, compact, body(n), fuse, c, fuse == calls)
					}
				}
			}
		}
	}
}

// cut does one call to the i-th pair, with a fuse, and keeps the c-th choice.
func cut(t *testing.T, i int, compact bool, b []byte, fuse, c int, done bool) {
	t.Helper()
	x := ahead(t, i)
	x.what = fmt.Sprintf("%s, Compact %t of %d bytes, fuse %d, choice %d", x.what, compact, len(b), fuse, c)
	call := x.append
	if compact {
		call = x.compact
	}
	was := tells(x.j)
	next := after(was, compact, b, 10)
	x.fuse(fuse)
	if done {
		x.must(call(b), api.OK)
		if !same(tells(x.j), next) {
			t.Fatalf("P8.2: %s: %v, not %v", x.what, tells(x.j), next)
		}
		// The Sync behind all of it has used the fuse up.
		x.crash(choices(frame.Sectors(len(b)))[c])
		x.open()
		if !same(tells(x.j), next) {
			t.Fatalf("P8.5: %s: %v, not %v", x.what, tells(x.j), next)
		}
		return
	}
	x.must(call(b), api.ErrDown)
	if !same(tells(x.j), was) {
		t.Fatalf("P8.3: %s: %v, not %v", x.what, tells(x.j), was)
	}
	keep := choices(frame.Sectors(len(b)))[c]
	// The first sector is kept only if it was written; it is the only one that is
	// pending then.
	want := was
	if len(keep) > 0 && keep[0] && x.d.Pending() == 1 && fuse == lastSync(len(b)) {
		want = next
	}
	x.crash(keep)
	dead := x.j
	for range 2 {
		x.open()
		if !same(tells(x.j), want) {
			t.Fatalf("P8.5: %s: %v, not %v", x.what, tells(x.j), want)
		}
		if x.d.Pending() > 0 {
			t.Fatalf("P8.1: %s: Open writes", x.what)
		}
	}
	x.must(dead.Append(nil), api.ErrDown)
	x.must(dead.Compact(nil), api.ErrDown)
	goesOn(x)
}

// lastSync is how many Writes and Syncs are ahead of a frame's last Sync.
func lastSync(n int) int {
	if n < 40 {
		return 1
	}
	return frame.Sectors(n) + 1
}

// goesOn does another call of each, and opens behind each.
func goesOn(x *pair) {
	x.t.Helper()
	for _, call := range []func([]byte) api.Errno{x.append, x.compact, x.append, x.compact} {
		if e := call([]byte("on")); e != api.OK {
			x.t.Fatalf("P8.2: %s: behind it: %d", x.what, e)
		}
		got := tells(x.j)
		x.open()
		if !same(tells(x.j), got) {
			x.t.Fatalf("P8.5: %s: behind it: %v, not %v", x.what, tells(x.j), got)
		}
	}
}

// TestCutOffTwice cuts one call off, then another one where the first one was.
func TestCutOffTwice(t *testing.T) {
	for i := range aheads {
		for _, compact := range []bool{false, true} {
			for _, first := range []int{30, 160} {
				for _, second := range []int{30, 90, 160} {
					for fuses := range 36 {
						for bits := range 4 {
							x := ahead(t, i)
							x.what = fmt.Sprintf("%s, Compact %t of %d and %d bytes, fuses %d, kept %b", x.what, compact, first, second, fuses, bits)
							x.twice(compact, body(first), body(second), fuses%6, fuses/6, bits)
						}
					}
				}
			}
		}
	}
}

func (x *pair) twice(compact bool, first, second []byte, fuse1, fuse2, bits int) {
	x.t.Helper()
	for k, b := range [][]byte{first, second} {
		was := tells(x.j)
		next := after(was, compact, b, 10)
		x.fuse([]int{fuse1, fuse2}[k])
		e := api.OK
		if compact {
			e = x.compact(b)
		} else {
			e = x.append(b)
		}
		keep := bits>>k&1 > 0
		x.crash([]bool{keep, keep, keep})
		x.open()
		if got := tells(x.j); !same(got, next) && (e == api.OK || !same(got, was)) {
			x.t.Fatalf("P8.5: %s: call %d: %v", x.what, k, got)
		}
	}
	goesOn(x)
}

// TestCrashes does what comes, with the power lost now and then: what was told
// by OK is told behind it, and at most the one that was under way.
func TestCrashes(t *testing.T) {
	r := rand.New(rand.NewSource(85))
	for run := range 300 {
		x := paired(t, 4+r.Intn(40), fmt.Sprintf("run %d", run))
		half := x.d.Len() / 2
		said := tells(x.j)
		for range 60 {
			if r.Intn(3) == 0 {
				x.fuse(r.Intn(8))
			}
			b, compact := some(r), r.Intn(4) == 0
			next := after(said, compact, b, half)
			var e api.Errno
			if compact {
				e = x.compact(b)
			} else {
				e = x.append(b)
			}
			switch e {
			case api.OK:
				said = next
			case api.ErrDown:
				x.crashed(r)
				x.open()
				if same(tells(x.j), next) {
					said = next
				}
			case api.ErrFull:
				if next.room >= 0 {
					t.Fatalf("P8.2: run %d: ErrFull, and there is room", run)
				}
			default:
				t.Fatalf("P8.2: run %d: %d", run, e)
			}
			if r.Intn(5) == 0 {
				x.crashed(r)
				x.open()
			}
			if !same(tells(x.j), said) {
				t.Fatalf("P8.5: run %d: %v, not %v", run, tells(x.j), said)
			}
		}
	}
}
