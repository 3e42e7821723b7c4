package post_test

import (
	"bytes"
	"runtime"
	"testing"

	"counterfoil/api"
	"counterfoil/post"
)

// TestPutStays: what is put is neither changed nor kept, nor what lies behind it,
// whether it goes in or not.
func TestPutStays(t *testing.T) {
	for _, size := range append(sizes(), longest+1, 1<<17) {
		x := open(t, 2)
		for range 3 {
			in, all := roomy(some(size, 1))
			was := bytes.Clone(all)
			x.put(3, in)
			if !bytes.Equal(all, was) {
				t.Fatalf("P17.2: %d bytes are changed, or what lies behind them", size)
			}
			spoil(all)
			x.holds()
			x.take(5)
			x.copy(0)
			spoil(all)
			x.holds()
			if !bytes.Equal(all, was) {
				t.Fatalf("P17.2: %d bytes that were put are written into later", size)
			}
		}
	}
}

// answers are what At and Take answer of a post of one parcel and a copy of its copy.
func answers(x both) [][]byte {
	x.t.Helper()
	x.copy(0)
	x.copy(1)
	var l [][]byte
	for i := range 3 {
		for range 2 {
			got, _ := x.q.At(i)
			l = append(l, got.Bytes)
		}
	}
	for range 2 {
		got, _ := x.take(1)
		l = append(l, got.Bytes)
	}
	return l
}

// TestAnswersAreNew turns each answer of At and Take, and its spare room: nothing that
// is under way shows it, and no other answer.
func TestAnswersAreNew(t *testing.T) {
	for _, size := range sizes() {
		x := open(t, 3)
		in := some(size, 1)
		x.put(3, in)
		l := answers(x)
		for k, b := range l {
			spoil(append(b, 1, 2, 3))
			spoil(b)
			for _, other := range l[k+1:] {
				if !bytes.Equal(other, some(size, 1)) {
					t.Fatalf("P17.2: two answers of %d bytes are one", size)
				}
			}
			x.holds()
		}
		if !bytes.Equal(in, some(size, 1)) {
			t.Fatalf("P17.2: an answer of %d bytes is what was put", size)
		}
		for x.q.Len() > 0 {
			got, _ := x.take(0)
			spoil(got.Bytes)
		}
	}
}

// TestSpareRoom: what is written behind the length of one answer is not seen in that
// of another one.
func TestSpareRoom(t *testing.T) {
	for _, size := range sizes() {
		x := open(t, 3)
		x.put(3, some(size, 1))
		l := answers(x)
		for k, b := range l {
			b = b[:cap(b)]
			for i := range b[size:] {
				b[size+i] = byte(k + 1)
			}
		}
		for k, b := range l {
			b = b[:cap(b)]
			for i := range b[size:] {
				if b[size+i] != byte(k+1) {
					t.Fatalf("P17.2: two answers of %d bytes share their spare room", size)
				}
			}
		}
		x.holds()
	}
}

// TestCopyIsNew turns what is taken of the one that was copied, or of its copy: the
// other one is what it was.
func TestCopyIsNew(t *testing.T) {
	for _, size := range sizes() {
		for first := range 2 {
			x := open(t, 2)
			x.put(3, some(size, 1))
			x.copy(0)
			for _, i := range []int{0, 1} {
				got, _ := x.q.At(i)
				spoil(got.Bytes)
				x.holds()
			}
			got, _ := x.take(first)
			spoil(got.Bytes)
			x.holds()
			if other, ok := x.take(0); !ok || !same(other, post.Parcel{To: 3, Bytes: some(size, 1)}) {
				t.Fatalf("P17.2: one of two that are alike: %s, %t", show(other), ok)
			}
		}
	}
}

// TestTakenStays: what was taken is still what it was when others go in and out.
func TestTakenStays(t *testing.T) {
	x := open(t, 4)
	var kept []post.Parcel
	for k := range 60 {
		x.put(k, some(60-k, k))
		x.copy(0)
		seen, _ := x.q.At(0)
		got, _ := x.take(0)
		kept = append(kept, seen, got)
		x.drop(0)
	}
	for i, got := range kept {
		if k := i / 2; !same(got, post.Parcel{To: k, Bytes: some(60-k, k)}) {
			t.Errorf("P17.2: answer %d is another one now: %s", i, show(got))
		}
		spoil(got.Bytes)
	}
	x.holds()
}

// TestPutWhatWasTaken: what At and Take answer may be put again, and written into then.
func TestPutWhatWasTaken(t *testing.T) {
	x := open(t, 5)
	x.put(3, some(50, 1))
	for k := range 20 {
		seen, _ := x.q.At(0)
		x.put(4, seen.Bytes)
		got, _ := x.take(0)
		x.put(5, got.Bytes)
		spoil(seen.Bytes)
		spoil(got.Bytes)
		x.holds()
		if got, ok := x.take(k % 2); !ok || !bytes.Equal(got.Bytes, some(50, 1)) {
			t.Fatalf("P17.2: what was put again: %s, %t", show(got), ok)
		}
	}
}

// TestNothingBeside: beside a false there is nothing else, though there was once.
func TestNothingBeside(t *testing.T) {
	x := filled(t, 9, 9)
	for x.q.Len() > 0 {
		x.take(x.q.Len() - 1)
		for i := x.q.Len(); i < 12; i++ {
			if got, ok := x.q.At(i); ok || got.To != 0 || len(got.Bytes) != 0 {
				t.Errorf("P17.1: At(%d) of %d: %s, %t", i, x.q.Len(), show(got), ok)
			}
			if got, ok := x.q.Take(i); ok || got.To != 0 || len(got.Bytes) != 0 {
				t.Errorf("P17.1: Take(%d) of %d: %s, %t", i, x.q.Len(), show(got), ok)
			}
		}
	}
	if q, e := post.New(0); q != nil || e != api.ErrRange {
		t.Errorf("P17.1: New(0): %v, %d", q, e)
	}
}

// heap is how many bytes are in use.
func heap() int {
	runtime.GC()
	runtime.GC()
	var m runtime.MemStats
	runtime.ReadMemStats(&m)
	return int(m.HeapAlloc)
}

// TestGoneIsGone: what is under way no more is not kept, either.
func TestGoneIsGone(t *testing.T) {
	for _, front := range []bool{true, false} {
		q, e := post.New(200)
		if e != api.OK {
			t.Fatal(e)
		}
		was := heap()
		for k := range 200 {
			q.Put(k, some(longest, k))
		}
		for q.Len() > 0 {
			i := q.Len() - 1
			if front {
				i = 0
			}
			if q.Len()%2 == 0 {
				q.Drop(i)
			} else {
				q.Take(i)
			}
		}
		if now := heap(); now-was > 10*longest {
			t.Errorf("P17.1: an empty post keeps %d bytes", now-was)
		}
		runtime.KeepAlive(q)
	}
}
