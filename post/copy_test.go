package post_test

import (
	"bytes"
	"testing"

	"counterfoil/api"
	"counterfoil/post"
)

// TestCopyEach copies each one of so many: one like it is behind the others, and it is
// where it was.
func TestCopyEach(t *testing.T) {
	for _, n := range []int{1, 2, 3, 4, 5, 8} {
		for i := range n {
			x := filled(t, 200, n)
			if e := x.copy(i); e != api.OK {
				t.Fatalf("P17.1: Copy(%d) of %d: %d", i, n, e)
			}
			left(t, x.q, append(rest(n, -1), post.Parcel{To: i - 1, Bytes: some(i%7, i)}))
		}
	}
	for _, i := range []int{0, 1, 99, 197, 198} {
		x := filled(t, 200, 199)
		x.copy(i)
		left(t, x.q, append(rest(199, -1), post.Parcel{To: i - 1, Bytes: some(i%7, i)}))
	}
}

// TestCopySizes: what goes in may be copied, of whatever length and to whomever.
func TestCopySizes(t *testing.T) {
	x := open(t, 200)
	for k, size := range sizes() {
		x.put(ids()[k], some(size, k))
		if e := x.copy(2 * k); e != api.OK {
			t.Errorf("P17.1: Copy of %d bytes: %d", size, e)
		}
	}
}

// TestCopyFull: where most are under way, none that is there is copied; one that is
// none is told that first.
func TestCopyFull(t *testing.T) {
	for _, most := range []int{1, 2, 5, 200} {
		x := filled(t, most, most-1)
		if most > 1 {
			x.copy(most - 2)
		} else {
			x.put(0, nil)
		}
		for i := range most {
			if e := x.copy(i); e != api.ErrFull {
				t.Fatalf("P17.1: Copy(%d) of a full one: %d", i, e)
			}
		}
		for _, i := range beyond(most) {
			if e := x.copy(i); e != api.ErrNone {
				t.Fatalf("P17.1: Copy(%d) of none, of a full one: %d", i, e)
			}
		}
		x.drop(0)
		if most > 1 && x.copy(0) != api.OK {
			t.Fatalf("P17.1: Copy behind a Drop")
		}
	}
}

// TestCopyOfCopy: a copy is copied as any other one.
func TestCopyOfCopy(t *testing.T) {
	x := open(t, 10)
	x.put(4, []byte("first"))
	x.put(5, []byte("second"))
	for k := range 8 {
		if e := x.copy(k); e != api.OK {
			t.Fatalf("P17.1: Copy(%d): %d", k, e)
		}
	}
	for k := range 10 {
		want := []post.Parcel{{To: 4, Bytes: []byte("first")}, {To: 5, Bytes: []byte("second")}}[k%2]
		if got, ok := x.take(0); !ok || !same(got, want) {
			t.Errorf("P17.1: copy %d: %s, %t, not %s", k, show(got), ok, show(want))
		}
	}
}

// TestCopyStays: the copy is under way when the one that was copied has gone, and the
// other way round.
func TestCopyStays(t *testing.T) {
	for _, first := range []int{0, 1, 2} {
		x := open(t, 4)
		x.put(7, []byte("hey"))
		x.put(8, []byte("ho"))
		x.copy(0)
		x.take(first)
		for x.q.Len() > 0 {
			x.drop(0)
		}
	}
	x := open(t, 2)
	x.put(7, []byte("hey"))
	for range 10 {
		x.copy(0)
		if got, ok := x.take(0); !ok || got.To != 7 || !bytes.Equal(got.Bytes, []byte("hey")) {
			t.Errorf("P17.1: the one that was copied: %s, %t", show(got), ok)
		}
	}
}
