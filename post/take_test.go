package post_test

import (
	"testing"

	"counterfoil/api"
	"counterfoil/post"
)

// rest are the parcels of filled but for the i-th.
func rest(n, i int) []post.Parcel {
	var l []post.Parcel
	for k := range n {
		if k != i {
			l = append(l, post.Parcel{To: k - 1, Bytes: some(k%7, k)})
		}
	}
	return l
}

// left holds what is under way against l.
func left(t *testing.T, q *post.Post, l []post.Parcel) {
	t.Helper()
	if q.Len() != len(l) {
		t.Fatalf("P17.1: Len %d, not %d", q.Len(), len(l))
	}
	for k, want := range l {
		if got, ok := q.At(k); !ok || !same(got, want) {
			t.Fatalf("P17.1: At(%d): %s, %t, not %s", k, show(got), ok, show(want))
		}
	}
}

// TestTakeEach takes each one of so many: it is under way no more, and the others
// stand as they stood.
func TestTakeEach(t *testing.T) {
	for _, n := range []int{0, 1, 2, 3, 4, 5, 8} {
		for i := range n {
			x := filled(t, 200, n)
			got, ok := x.take(i)
			if want := (post.Parcel{To: i - 1, Bytes: some(i%7, i)}); !ok || !same(got, want) {
				t.Fatalf("P17.1: Take(%d) of %d: %s, %t, not %s", i, n, show(got), ok, show(want))
			}
			left(t, x.q, rest(n, i))
		}
	}
	for _, i := range []int{0, 1, 99, 198, 199} {
		x := filled(t, 200, 200)
		x.take(i)
		left(t, x.q, rest(200, i))
	}
}

// TestDropEach drops each one of so many: as Take.
func TestDropEach(t *testing.T) {
	for _, n := range []int{0, 1, 2, 3, 4, 5, 8} {
		for i := range n {
			x := filled(t, 200, n)
			if !x.drop(i) {
				t.Fatalf("P17.1: Drop(%d) of %d: false", i, n)
			}
			left(t, x.q, rest(n, i))
		}
	}
	for _, i := range []int{0, 1, 99, 198, 199} {
		x := filled(t, 200, 200)
		x.drop(i)
		left(t, x.q, rest(200, i))
	}
}

// TestNoSuchOne: of a number that is none nothing is told, and nothing changes.
func TestNoSuchOne(t *testing.T) {
	for _, most := range []int{1, 5, 8, 200} {
		for _, n := range []int{0, 1, 2, 5, 8, 199, 200} {
			if n > most {
				continue
			}
			x := filled(t, most, n)
			for _, i := range beyond(n) {
				if got, ok := x.take(i); ok || got.To != 0 || len(got.Bytes) != 0 {
					t.Fatalf("P17.1: Take(%d) of %d: %s, %t", i, n, show(got), ok)
				}
				if got, ok := x.q.At(i); ok || got.To != 0 || len(got.Bytes) != 0 {
					t.Fatalf("P17.1: At(%d) of %d: %s, %t", i, n, show(got), ok)
				}
				if x.drop(i) {
					t.Fatalf("P17.1: Drop(%d) of %d: true", i, n)
				}
				if e := x.copy(i); e != api.ErrNone {
					t.Fatalf("P17.1: Copy(%d) of %d: %d", i, n, e)
				}
				left(t, x.q, rest(n, -1))
			}
		}
	}
}

// TestOfAnEmptyOne: Take, Drop, Copy and At of 0, where nothing is under way.
func TestOfAnEmptyOne(t *testing.T) {
	for _, most := range []int{1, 2, 200} {
		x := open(t, most)
		for range 2 {
			if got, ok := x.take(0); ok || got.To != 0 || len(got.Bytes) != 0 {
				t.Errorf("P17.1: Take: %s, %t", show(got), ok)
			}
			if got, ok := x.q.At(0); ok || got.To != 0 || len(got.Bytes) != 0 {
				t.Errorf("P17.1: At: %s, %t", show(got), ok)
			}
			if x.drop(0) || x.copy(0) != api.ErrNone || x.q.Len() != 0 {
				t.Errorf("P17.1: Drop or Copy of an empty one")
			}
		}
	}
}

// TestTakeAll takes one place until nothing is left: each comes once.
func TestTakeAll(t *testing.T) {
	for _, n := range []int{1, 2, 3, 8, 200} {
		for _, which := range []int{0, 1, 2} {
			x := filled(t, 200, n)
			came := make([]int, n)
			for left := n; left > 0; left-- {
				got, ok := x.take([]int{0, left - 1, left / 2}[which])
				if !ok {
					t.Fatalf("P17.1: none, where %d are under way", left)
				}
				came[got.To+1]++
			}
			for k, times := range came {
				if times != 1 {
					t.Errorf("P17.3: parcel %d came %d times", k, times)
				}
			}
			if _, ok := x.take(0); ok {
				t.Errorf("P17.1: more than %d", n)
			}
		}
	}
}

// TestAtChangesNothing: asked in any order, as often as may be, each is what it was.
func TestAtChangesNothing(t *testing.T) {
	x := filled(t, 9, 9)
	for k := range 100 {
		x.at(k * 7 % 12)
		left(t, x.q, rest(9, -1))
	}
}
