package journal

import (
	"bytes"
	"slices"
	"strings"
	"testing"

	"counterfoil/api"
	"counterfoil/frame"
	"counterfoil/sha"
)

// sizes are the lengths of Bodies that the sectors have as edges, the greatest
// too.
func sizes() []int {
	return []int{0, 1, 38, 39, 40, 41, 101, 102, 103, 104, 165, 166, 1000, 59952, 59953, 59999, 60000}
}

// TestAppend appends Bodies of each edge, one behind the other.
func TestAppend(t *testing.T) {
	x := paired(t, 8192, "edges")
	left := 4096
	var want []string
	for _, n := range sizes() {
		x.must(x.append(body(n)), api.OK)
		left -= (24 + n + 62) / 63
		want = append(want, string(body(n)))
		x.is(0, left, want...)
	}
	x.open()
	x.is(0, left, want...)
}

// TestSectors holds the sectors of an Append and a Compact byte by byte.
func TestSectors(t *testing.T) {
	for _, n := range sizes() {
		d := made(t, 4000)
		j := Open(sha.NewTable(), d)
		for _, e := range []api.Errno{j.Append([]byte("a")), j.Append(body(n)), j.Compact(body(n)), j.Append(body(n)), j.Append([]byte("b"))} {
			if e != api.OK {
				t.Fatalf("P8.2: %d bytes: %d", n, e)
			}
		}
		k := frame.Sectors(n)
		want := make([][]byte, 4000)
		for i := range want {
			want[i] = make([]byte, 64)
		}
		for _, a := range []at{
			rec(0, 0, 1, "a"), rec(1, 0, 2, string(body(n))),
			pic(2000, 1, string(body(n))), rec(2000+k, 1, 1, string(body(n))), rec(2000+2*k, 1, 2, "b"),
		} {
			copy(want[a.i:], laid(a.f))
		}
		if got := contents(t, d); !slices.EqualFunc(got, want, bytes.Equal) {
			t.Errorf("P8.2: %d bytes: the sectors", n)
		}
		if d.Pending() != 0 {
			t.Errorf("P8.2: %d bytes: %d pending", n, d.Pending())
		}
	}
}

// TestFull fills a half to its last sector, with a Body that ends with it, and
// with one that goes on into one sector more.
func TestFull(t *testing.T) {
	for k := 1; k < 12; k++ {
		for ahead := range k {
			for _, pictured := range []bool{false, true} {
				x := paired(t, 2*k, "a full half")
				var want []string
				gen, left := 0, k-ahead
				if pictured {
					x.must(x.compact(nil), api.OK)
					want = append(want, "picture ")
					gen, left = 1, left-1
				}
				for range ahead {
					e := x.append([]byte("a"))
					if len(want) == k {
						x.must(e, api.ErrFull)
						continue
					}
					want = append(want, "a")
				}
				if left < 1 {
					x.must(x.append(nil), api.ErrFull)
					x.is(gen, 0, want...)
					continue
				}
				last := body(63*left - 24)
				x.must(x.append(append(last, 1)), api.ErrFull)
				x.is(gen, left, want...)
				x.must(x.append(last), api.OK)
				want = append(want, string(last))
				x.is(gen, 0, want...)
				x.must(x.append(nil), api.ErrFull)
				x.open()
				x.is(gen, 0, want...)
			}
		}
	}
}

// TestRefusedGoesOn: what is refused changes nothing: what fits is appended
// behind it.
func TestRefusedGoesOn(t *testing.T) {
	x := paired(t, 9, "refused")
	x.must(x.append(body(50)), api.OK)
	for range 3 {
		x.must(x.append(body(60001)), api.ErrLong)
		x.must(x.append(body(103)), api.ErrFull)
		x.must(x.append(body(60000)), api.ErrFull)
		x.must(x.compact(body(60001)), api.ErrLong)
		x.must(x.compact(body(229)), api.ErrFull)
		x.is(0, 2, string(body(50)))
	}
	x.must(x.append(body(102)), api.OK)
	x.is(0, 0, string(body(50)), string(body(102)))
	x.open()
	x.is(0, 0, string(body(50)), string(body(102)))
}

// TestRefusedLeavesFuse: what is refused neither writes nor syncs.
func TestRefusedLeavesFuse(t *testing.T) {
	for n := range 3 {
		x := paired(t, 8, "refused with a fuse")
		x.must(x.append(body(50)), api.OK)
		x.fuse(n)
		x.must(x.append(body(60001)), api.ErrLong)
		x.must(x.append(body(103)), api.ErrFull)
		x.must(x.compact(body(60001)), api.ErrLong)
		x.must(x.compact(body(229)), api.ErrFull)
		want := api.ErrDown
		if n == 2 {
			want = api.OK
		}
		x.must(x.append(nil), want)
	}
}

// TestLongFirst: ErrLong comes ahead of ErrFull, whatever else there is.
func TestLongFirst(t *testing.T) {
	for _, n := range []int{1, 2, 3, 8, 100, 2000, 8192} {
		x := paired(t, n, "long")
		for _, size := range []int{60001, 60002, 65535, 65536, 70000, 1 << 20} {
			x.must(x.append(make([]byte, size)), api.ErrLong)
			x.must(x.compact(make([]byte, size)), api.ErrLong)
		}
		x.is(0, n/2)
	}
	// Of MaxRecord bytes a frame has 953 sectors.
	x := paired(t, 2*952, "one sector less")
	x.must(x.append(body(60000)), api.ErrFull)
	x.must(x.compact(body(60000)), api.ErrFull)
	x.must(x.append(body(59952)), api.OK)
	x.must(x.compact(body(59952)), api.OK)
	x.is(1, 0, "picture "+string(body(59952)))
	x = paired(t, 2*953, "as many")
	x.must(x.append(body(60000)), api.OK)
	x.must(x.compact(body(60000)), api.OK)
	x.is(1, 0, "picture "+string(body(60000)))
	x.open()
	x.is(1, 0, "picture "+string(body(60000)))
}

// TestManyRecords has more records than a byte counts, in the greatest disk.
func TestManyRecords(t *testing.T) {
	d := made(t, 8192)
	j := Open(sha.NewTable(), d)
	for i := range 4096 {
		if e := j.Append([]byte{byte(i), byte(i >> 8)}); e != api.OK {
			t.Fatalf("P8.2: record %d: %d", i, e)
		}
	}
	if e := j.Append(nil); e != api.ErrFull {
		t.Errorf("P8.2: one more: %d", e)
	}
	for _, j := range []*Journal{j, Open(sha.NewTable(), d)} {
		got := tells(j)
		if len(got.records) != 4096 || got.room != 0 {
			t.Fatalf("P8.1: %d records, Room %d", len(got.records), got.room)
		}
		for i, b := range got.records {
			if !bytes.Equal(b, []byte{byte(i), byte(i >> 8)}) {
				t.Fatalf("P8.1: record %d: %x", i, b)
			}
		}
	}
}

// TestSpelled appends Bodies that spell frames: what they spell is no record.
func TestSpelled(t *testing.T) {
	flat := func(l [][]byte) []byte { return slices.Concat(l...) }
	next := flat(laid(frame.Frame{Kind: 2, Seq: 2, Body: []byte("spelled")}))
	other := flat(laid(frame.Frame{Kind: 1, Gen: 9, Body: []byte("spelled")}))
	for _, inner := range [][]byte{next, other, next[1:], other[1:]} {
		for ahead := range 64 {
			// For one of these the inner frame begins where a sector begins.
			b := append(body(ahead), inner...)
			x := paired(t, 20, "spelled")
			x.must(x.append(b), api.OK)
			k := frame.Sectors(len(b))
			x.open()
			x.is(0, 10-k, string(b))
			x.must(x.append([]byte("a")), api.OK)
			x.open()
			x.is(0, 9-k, string(b), "a")
			x.must(x.compact(b), api.OK)
			x.open()
			x.is(1, 10-k, "picture "+string(b))
			// The sectors of it that a crash leaves are none, either.
			x.must(x.append([]byte("c")), api.OK)
			x.fuse(k)
			x.must(x.append(b), api.ErrDown)
			x.crash([]bool{true, true, true, true})
			x.open()
			x.is(1, 9-k, "picture "+string(b), "c")
			x.must(x.append([]byte("d")), api.OK)
			x.open()
			x.is(1, 8-k, "picture "+string(b), "c", "d")
		}
	}
}

// TestShorter writes a shorter record, and a shorter picture, where longer ones
// were.
func TestShorter(t *testing.T) {
	x := paired(t, 20, "shorter")
	long := strings.Repeat("l", 200) // four sectors
	x.must(x.append([]byte(long)), api.OK)
	x.must(x.append([]byte("old")), api.OK)
	x.must(x.append([]byte(long)), api.OK)
	x.must(x.compact([]byte("p")), api.OK)
	x.must(x.append([]byte(long)), api.OK)
	x.must(x.append([]byte("older")), api.OK)
	x.must(x.compact([]byte("q")), api.OK)
	for i, want := 0, []string{"picture q"}; i < 9; i++ {
		x.is(2, 9-i, want...)
		x.open()
		x.is(2, 9-i, want...)
		x.must(x.append([]byte("new")), api.OK)
		want = append(want, "new")
	}
	x.must(x.compact([]byte("r")), api.OK)
	x.open()
	x.is(3, 9, "picture r")
	// Of one Gen: a longer one that a crash took, and an old record of its Seq.
	x = paired(t, 20, "shorter behind a crash")
	x.must(x.append([]byte("a")), api.OK)
	x.fuse(4)
	x.must(x.append([]byte(long)), api.ErrDown)
	x.crash(nil)
	x.open()
	x.is(0, 9, "a")
	x.must(x.append([]byte("b")), api.OK)
	x.must(x.append([]byte("c")), api.OK)
	x.open()
	x.is(0, 7, "a", "b", "c")
}
