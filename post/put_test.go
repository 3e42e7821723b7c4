package post_test

import (
	"bytes"
	"math"
	"testing"

	"counterfoil/api"
	"counterfoil/post"
)

// TestNew: as many as New is told are under way, and not one more.
func TestNew(t *testing.T) {
	for most := 1; most <= 200; most++ {
		x, e := post.New(most)
		if e != api.OK || x == nil {
			t.Fatalf("P17.1: New(%d): %d", most, e)
		}
		for k := range most {
			if e := x.Put(k, []byte("hey")); e != api.OK || x.Len() != k+1 {
				t.Fatalf("P17.1: Put %d of %d: %d, Len %d", k+1, most, e, x.Len())
			}
		}
		for range 2 {
			if e := x.Put(9, []byte("ho")); e != api.ErrFull || x.Len() != most {
				t.Fatalf("P17.1: Put above %d: %d, Len %d", most, e, x.Len())
			}
		}
	}
}

func TestNewOfNoNumber(t *testing.T) {
	for _, most := range []int{0, -1, -2, -199, -200, -201, 201, 202, 400, 1 << 16, 1 << 32, 1<<32 + 1, math.MaxInt, math.MaxInt - 1, math.MinInt, math.MinInt + 1} {
		if x, e := post.New(most); x != nil || e != api.ErrRange {
			t.Errorf("P17.1: New(%d): %v, %d", most, x, e)
		}
	}
}

// TestApart: what is put into one goes into no other one.
func TestApart(t *testing.T) {
	x, y := open(t, 3), open(t, 3)
	x.put(1, []byte("one"))
	y.put(2, []byte("two"))
	x.put(3, nil)
	y.holds()
	y.drop(0)
	x.holds()
	x.take(0)
	y.holds()
}

// TestPutBehind: what is put lies behind the others, whoever it goes to.
func TestPutBehind(t *testing.T) {
	x := open(t, 200)
	for k, to := range ids() {
		if e := x.put(to, some(k, 1)); e != api.OK {
			t.Fatalf("P17.1: Put(%d): %d", to, e)
		}
		if last, ok := x.q.At(k); !ok || !same(last, post.Parcel{To: to, Bytes: some(k, 1)}) {
			t.Fatalf("P17.1: behind the others: %s, %t", show(last), ok)
		}
	}
	for k := range 20 {
		x.put(5, []byte("the same"))
		x.put(5-k%2, []byte("the same"))
	}
}

func TestPutSizes(t *testing.T) {
	x := open(t, 200)
	for k, size := range sizes() {
		if e := x.put(k, some(size, k)); e != api.OK {
			t.Errorf("P17.1: Put of %d bytes: %d", size, e)
		}
		for _, size := range []int{longest + 1, longest + 2, longest + api.Sector, 65535, 65536, 65537, 1 << 17} {
			if e := x.put(k, make([]byte, size)); e != api.ErrLong {
				t.Errorf("P17.1: Put of %d bytes: %d", size, e)
			}
		}
	}
	if x.q.Len() != len(sizes()) {
		t.Errorf("P17.1: Len %d, not %d", x.q.Len(), len(sizes()))
	}
	x.put(0, nil)
	x.put(0, []byte{})
}

// TestFullComesFirst: where most are under way, a text that is too long is told that.
func TestFullComesFirst(t *testing.T) {
	for _, most := range []int{1, 2, 3, 199, 200} {
		x := filled(t, most, most-1)
		if e := x.put(1, make([]byte, longest+1)); e != api.ErrLong {
			t.Errorf("P17.1: too long, with one place of %d left: %d", most, e)
		}
		x.put(1, make([]byte, longest))
		for _, size := range []int{0, 1, longest, longest + 1, 1 << 17} {
			if e := x.put(1, make([]byte, size)); e != api.ErrFull {
				t.Errorf("P17.1: %d bytes above %d: %d", size, most, e)
			}
		}
	}
}

// TestGoesInAgain: behind a Take, and behind a Drop, there is room for one more.
func TestGoesInAgain(t *testing.T) {
	for _, most := range []int{1, 2, 5, 200} {
		x := filled(t, most, most)
		for k := range 2*most + 3 {
			i := (3 * k) % most
			if k%2 == 0 {
				x.take(i)
			} else {
				x.drop(i)
			}
			if e := x.put(k, some(k%9, k)); e != api.OK {
				t.Fatalf("P17.1: Put behind one that went: %d", e)
			}
			if e := x.put(k, some(k%9, k)); e != api.ErrFull {
				t.Fatalf("P17.1: Put of one more than went: %d", e)
			}
		}
	}
}

// TestEmptyAgain: a post that was full and emptied is as a new one.
func TestEmptyAgain(t *testing.T) {
	for _, most := range []int{1, 2, 7, 200} {
		x := open(t, most)
		for turn := range 3 {
			for k := range most {
				x.put(turn, some(k%5, turn))
			}
			for x.q.Len() > 0 {
				x.take([]int{0, x.q.Len() - 1, x.q.Len() / 2}[turn])
			}
			if x.drop(0) || x.copy(0) != api.ErrNone {
				t.Fatalf("P17.1: something is left of %d", most)
			}
		}
		if got, ok := x.take(0); ok || got.To != 0 || !bytes.Equal(got.Bytes, nil) {
			t.Fatalf("P17.1: Take of an empty one: %s, %t", show(got), ok)
		}
	}
}
