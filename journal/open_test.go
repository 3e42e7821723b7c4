package journal

import (
	"bytes"
	"slices"
	"strings"
	"testing"

	"counterfoil/api"
	"counterfoil/disk"
	"counterfoil/frame"
	"counterfoil/sha"
)

// TestEmpty: an empty disk: no picture, no records, Gen 0.
func TestEmpty(t *testing.T) {
	for _, n := range []int{1, 2, 3, 4, 5, 8, 9, 63, 64, 8191, 8192} {
		d := made(t, n)
		j := Open(sha.NewTable(), d)
		if b, ok := j.Picture(); ok || len(b) > 0 {
			t.Errorf("P8.1: %d sectors: a picture of %d bytes, %t", n, len(b), ok)
		}
		if len(j.Records()) > 0 || j.Gen() != 0 || j.Room() != n/2 {
			t.Errorf("P8.1: %d sectors: %d records, Gen %d, Room %d", n, len(j.Records()), j.Gen(), j.Room())
		}
		if d.Pending() > 0 || d.Down() {
			t.Errorf("P8.1: %d sectors: Pending %d, Down %t", n, d.Pending(), d.Down())
		}
	}
}

// TestSmall: disks whose halves have no sector, or one.
func TestSmall(t *testing.T) {
	x := paired(t, 1, "one sector")
	for _, n := range []int{0, 1, 39, 40, 60000} {
		x.must(x.append(body(n)), api.ErrFull)
		x.must(x.compact(body(n)), api.ErrFull)
	}
	x.must(x.append(body(60001)), api.ErrLong)
	x.must(x.compact(body(60001)), api.ErrLong)
	x.frame(0, frame.Frame{Kind: 1, Gen: 3})
	x.open()
	x.is(0, 0)
	x.frame(0, frame.Frame{Kind: 2, Seq: 1})
	x.open()
	x.is(0, 0)
	for _, n := range []int{2, 3} {
		x := paired(t, n, "halves of one sector")
		x.must(x.append(body(40)), api.ErrFull)
		x.must(x.append([]byte("a")), api.OK)
		x.is(0, 0, "a")
		x.must(x.append(nil), api.ErrFull)
		x.must(x.compact(body(40)), api.ErrFull)
		for gen := 1; gen < 6; gen++ {
			x.must(x.compact([]byte{byte('a' + gen)}), api.OK)
			x.is(gen, 0, "picture "+string(rune('a'+gen)))
			x.must(x.append(nil), api.ErrFull)
			x.open()
			x.is(gen, 0, "picture "+string(rune('a'+gen)))
		}
	}
}

// TestOdd: the last sector of an odd number belongs to no half.
func TestOdd(t *testing.T) {
	x := paired(t, 7, "seven sectors")
	x.raw(6, laid(frame.Frame{Kind: 1, Gen: 9})[0])
	x.sync()
	x.open()
	x.is(0, 3)
	x.must(x.append(body(39)), api.OK)
	x.must(x.append(body(103)), api.ErrFull)
	x.must(x.append(body(102)), api.OK)
	x.must(x.append(nil), api.ErrFull)
	x.must(x.compact(body(166)), api.ErrFull)
	x.is(0, 0, string(body(39)), string(body(102)))
	for gen := 1; gen < 4; gen++ {
		x.must(x.compact(body(165)), api.OK)
		x.is(gen, 0, "picture "+string(body(165)))
		x.must(x.append(nil), api.ErrFull)
		x.open()
		x.is(gen, 0, "picture "+string(body(165)))
	}
	if b, e := x.d.Read(6); e != api.OK || !bytes.Equal(b, laid(frame.Frame{Kind: 1, Gen: 9})[0]) {
		t.Errorf("P8.1: the last sector of seven: %d, %x", e, b)
	}
	// A record that would go on into the last sector is none.
	x = paired(t, 5, "five sectors")
	x.frame(2, frame.Frame{Kind: 1, Gen: 1, Body: []byte("p")})
	x.frame(3, frame.Frame{Kind: 2, Gen: 1, Seq: 1, Body: body(40)})
	x.open()
	x.is(1, 1, "picture p")
	x.frame(4, frame.Frame{Kind: 2, Gen: 1, Seq: 2})
	x.frame(3, frame.Frame{Kind: 2, Gen: 1, Seq: 1, Body: []byte("a")})
	x.open()
	x.is(1, 0, "picture p", "a")
	// Nor is a picture.
	x.frame(2, frame.Frame{Kind: 1, Gen: 2, Body: body(103)})
	x.open()
	x.is(0, 2)
}

// at is a frame, and the sector that it begins in.
type at struct {
	i int
	f frame.Frame
}

func pic(i, gen int, s string) at { return at{i, frame.Frame{Kind: 1, Gen: gen, Body: []byte(s)}} }

func rec(i, gen, seq int, s string) at {
	return at{i, frame.Frame{Kind: 2, Gen: gen, Seq: seq, Body: []byte(s)}}
}

// TestRaw opens what was written raw to a disk of 12 sectors.
func TestRaw(t *testing.T) {
	long := strings.Repeat("l", 100) // two sectors
	whole := strings.Repeat("w", 63*6-24)
	over := whole + "w" // seven sectors
	for _, c := range []struct {
		what      string
		l         []at
		gen, room int
		want      []string
	}{
		{"a record alone", []at{rec(0, 0, 1, "a")}, 0, 5, []string{"a"}},
		{"records", []at{rec(0, 0, 1, "a"), rec(1, 0, 2, long), rec(3, 0, 3, "")}, 0, 2, []string{"a", long, ""}},
		{"a Seq that lacks", []at{rec(0, 0, 1, "a"), rec(1, 0, 3, "b")}, 0, 5, []string{"a"}},
		{"a Seq twice", []at{rec(0, 0, 1, "a"), rec(1, 0, 1, "b")}, 0, 5, []string{"a"}},
		{"a Seq from 0", []at{rec(0, 0, 0, "a"), rec(1, 0, 1, "b")}, 0, 6, []string{}},
		{"a Seq from 2", []at{rec(0, 0, 2, "a")}, 0, 6, []string{}},
		{"a Seq far off", []at{rec(0, 0, 1, "a"), rec(1, 0, 1<<32-1, "b")}, 0, 5, []string{"a"}},
		{"a Seq of 257", []at{rec(0, 0, 257, "a")}, 0, 6, []string{}},
		{"another Gen", []at{rec(0, 1, 1, "a")}, 0, 6, []string{}},
		{"another Gen behind", []at{rec(0, 0, 1, "a"), rec(1, 1, 2, "b")}, 0, 5, []string{"a"}},
		{"a hole", []at{rec(0, 0, 1, "a"), rec(2, 0, 2, "b")}, 0, 5, []string{"a"}},
		{"nothing at the beginning", []at{rec(1, 0, 1, "a")}, 0, 6, []string{}},
		{"another Kind", []at{rec(0, 0, 1, "a"), {1, frame.Frame{Kind: 3, Seq: 2}}, rec(2, 0, 4, "c")}, 0, 5, []string{"a"}},
		{"Kind 0", []at{{0, frame.Frame{Kind: 0, Seq: 1}}}, 0, 6, []string{}},
		{"Kind 255", []at{{0, frame.Frame{Kind: 255, Seq: 1}}}, 0, 6, []string{}},
		{"a picture behind a record", []at{rec(0, 0, 1, "a"), {1, frame.Frame{Kind: 1, Seq: 2}}}, 0, 5, []string{"a"}},
		{"a picture with Seq 1", []at{{0, frame.Frame{Kind: 1, Gen: 3, Seq: 1}}}, 0, 6, []string{}},
		{"a picture with Seq 1 of Gen 0", []at{{0, frame.Frame{Kind: 1, Seq: 1}}}, 0, 6, []string{}},
		{"a record with Seq 0", []at{{0, frame.Frame{Kind: 2, Gen: 3}}}, 0, 6, []string{}},
		{"Kind 3 for a picture", []at{{0, frame.Frame{Kind: 3, Gen: 3}}}, 0, 6, []string{}},
		{"a picture alone", []at{pic(0, 7, "p")}, 7, 5, []string{"picture p"}},
		{"an empty picture", []at{pic(0, 7, "")}, 7, 5, []string{"picture "}},
		{"a picture of Gen 0", []at{pic(0, 0, "p"), rec(1, 0, 1, "a")}, 0, 4, []string{"picture p", "a"}},
		{"a long picture", []at{pic(0, 7, long), rec(2, 7, 1, "a"), rec(3, 7, 2, long), rec(5, 7, 3, "c")}, 7, 0, []string{"picture " + long, "a", long, "c"}},
		{"records of the Gen ahead", []at{pic(0, 7, "p"), rec(1, 6, 1, "a")}, 7, 5, []string{"picture p"}},
		{"records of the Gen behind", []at{pic(0, 7, "p"), rec(1, 8, 1, "a")}, 7, 5, []string{"picture p"}},
		{"records of Gen 0 behind a picture", []at{pic(0, 7, "p"), rec(1, 0, 1, "a")}, 7, 5, []string{"picture p"}},
		{"a picture in the other half", []at{pic(6, 1, "q"), rec(7, 1, 1, "a")}, 1, 4, []string{"picture q", "a"}},
		{"ahead of a first half without one", []at{rec(0, 0, 1, "a"), pic(6, 0, "q"), rec(7, 0, 1, "b")}, 0, 4, []string{"picture q", "b"}},
		{"records alone in the other half", []at{rec(6, 0, 1, "a")}, 0, 6, []string{}},
		{"the greater Gen first", []at{pic(0, 8, "p"), rec(1, 8, 1, "a"), pic(6, 7, "q"), rec(7, 7, 1, "b")}, 8, 4, []string{"picture p", "a"}},
		{"the greater Gen second", []at{pic(0, 8, "p"), rec(1, 8, 1, "a"), pic(6, 9, "q"), rec(7, 9, 1, "b")}, 9, 4, []string{"picture q", "b"}},
		{"far apart", []at{pic(0, 0, "p"), pic(6, 1<<32-1, "q")}, 1<<32 - 1, 5, []string{"picture q"}},
		{"far apart, the other way", []at{pic(0, 1<<32-1, "p"), pic(6, 0, "q")}, 1<<32 - 1, 5, []string{"picture p"}},
		{"about the sign", []at{pic(0, 1<<31-1, "p"), pic(6, 1<<31, "q")}, 1 << 31, 5, []string{"picture q"}},
		{"one Gen", []at{pic(0, 8, "p"), pic(6, 8, "q"), rec(7, 8, 1, "b")}, 8, 5, []string{"picture p"}},
		{"one Gen, 0", []at{pic(0, 0, "p"), pic(6, 0, "q"), rec(7, 0, 1, "b")}, 0, 5, []string{"picture p"}},
		{"one Gen, the last", []at{pic(0, 1<<32-1, "p"), pic(6, 1<<32-1, "q")}, 1<<32 - 1, 5, []string{"picture p"}},
		{"one sector off", []at{pic(1, 8, "p"), pic(5, 9, "q"), pic(7, 9, "r")}, 0, 6, []string{}},
		{"a whole half", []at{rec(0, 0, 1, whole)}, 0, 0, []string{whole}},
		{"more than a half", []at{rec(0, 0, 1, over)}, 0, 6, []string{}},
		{"a picture of a whole half", []at{pic(0, 2, whole)}, 2, 0, []string{"picture " + whole}},
		{"a picture of more than a half", []at{pic(0, 2, over)}, 0, 6, []string{}},
		{"one of more than a half that is behind", []at{pic(0, 2, over), rec(7, 2, 1, "a")}, 0, 6, []string{}},
		{"a record on into the other half", []at{rec(0, 0, 1, long), rec(2, 0, 2, long), rec(4, 0, 3, "c"), rec(5, 0, 4, long)}, 0, 1, []string{long, long, "c"}},
		{"records on in the other half", []at{pic(0, 2, whole), rec(6, 2, 1, "a")}, 2, 0, []string{"picture " + whole}},
		{"a picture of a whole other half", []at{pic(6, 2, whole)}, 2, 0, []string{"picture " + whole}},
	} {
		x := paired(t, 12, c.what)
		for _, a := range c.l {
			x.frame(a.i, a.f)
		}
		x.open()
		x.is(c.gen, c.room, c.want...)
		x.open()
		x.is(c.gen, c.room, c.want...)
		// What comes next goes behind what was read, and to the other half.
		if c.room > 0 {
			x.must(x.append([]byte("next")), api.OK)
			x.is(c.gen, c.room-1, append(c.want, "next")...)
			x.open()
			x.is(c.gen, c.room-1, append(c.want, "next")...)
		}
		if c.gen == 1<<32-1 {
			x.must(x.compact([]byte("over")), api.ErrFull)
			continue
		}
		x.must(x.compact([]byte("over")), api.OK)
		x.is(c.gen+1, 5, "picture over")
	}
}

// TestBroken turns each byte of a picture and two records: from the one that is
// turned on there is none.
func TestBroken(t *testing.T) {
	table := sha.NewTable()
	d := made(t, 16)
	j := Open(table, d)
	j.Compact(body(60))
	j.Append(body(10))
	j.Append(body(110))
	all := contents(t, d)
	for i := 8; i < 14; i++ {
		left := []int{0, 0, 1, 2, 2, 2}[i-8] // frames that are left whole
		for k := range 64 {
			b := bytes.Clone(all[i])
			b[k] ^= byte(1 + k)
			d.Write(i, b)
			got := tells(Open(table, d))
			if got.pictured != (left > 0) || len(got.records) != max(0, left-1) || got.gen != min(1, left) {
				t.Fatalf("P8.1: sector %d, byte %d turned: %v", i, k, got)
			}
		}
		d.Write(i, all[i])
	}
	if !same(tells(Open(table, d)), tells(j)) {
		t.Error("P8.1: turned back")
	}
}

// TestPending: Open reads what was written last, and makes nothing of it last.
func TestPending(t *testing.T) {
	for _, keep := range [][]bool{nil, {true}} {
		x := paired(t, 8, "pending")
		x.must(x.append([]byte("a")), api.OK)
		x.raw(1, laid(rec(1, 0, 2, "b").f)[0])
		x.open()
		x.is(0, 2, "a", "b")
		if x.d.Pending() != 1 {
			t.Errorf("P8.1: Pending %d", x.d.Pending())
		}
		x.crash(keep)
		x.is(0, 2, "a", "b")
		x.open()
		if keep == nil {
			x.is(0, 3, "a")
		} else {
			x.is(0, 2, "a", "b")
		}
	}
}

// TestOpenLeavesFuse: Open neither writes nor syncs: a fuse stays as it is.
func TestOpenLeavesFuse(t *testing.T) {
	for n := range 3 {
		x := paired(t, 8, "a fuse")
		x.must(x.append(body(50)), api.OK)
		x.must(x.compact(body(50)), api.OK)
		x.fuse(n)
		for range 5 {
			x.open()
		}
		want := api.ErrDown
		if n == 2 {
			want = api.OK
		}
		x.must(x.append(nil), want)
	}
}

// TestReadOnce: what a Journal tells is what Open read, and what it wrote since.
func TestReadOnce(t *testing.T) {
	x := paired(t, 12, "read once")
	x.must(x.compact([]byte("p")), api.OK)
	x.must(x.append([]byte("a")), api.OK)
	for i := range 12 {
		x.raw(i, make([]byte, 64))
	}
	x.sync()
	x.is(1, 4, "picture p", "a")
	x.must(x.append([]byte("b")), api.OK)
	x.is(1, 3, "picture p", "a", "b")
	x.frame(9, rec(9, 1, 3, "raw").f)
	x.is(1, 3, "picture p", "a", "b")
	j := x.j
	x.open()
	x.is(0, 6)
	if got := tells(j); len(got.records) != 2 || got.gen != 1 || got.room != 3 {
		t.Errorf("P8.1: behind an Open of another one: %v", got)
	}
}

// TestRawAhead: a record that was written raw where the next one goes is not
// seen; it is written over; one behind it that fits is there when it is opened.
func TestRawAhead(t *testing.T) {
	x := paired(t, 12, "raw ahead")
	x.must(x.append([]byte("a")), api.OK)
	x.frame(1, rec(1, 0, 2, "raw").f)
	x.frame(2, rec(2, 0, 3, "behind").f)
	x.is(0, 5, "a")
	x.must(x.append([]byte("b")), api.OK)
	x.is(0, 4, "a", "b")
	x.open()
	x.is(0, 3, "a", "b", "behind")
	x.must(x.append([]byte("c")), api.OK)
	x.open()
	x.is(0, 2, "a", "b", "behind", "c")
}

// TestTwoOfOneDisk: each tells what it read and wrote; Open tells what stands.
func TestTwoOfOneDisk(t *testing.T) {
	table := sha.NewTable()
	d := made(t, 16)
	one, two := Open(table, d), Open(table, d)
	is := func(j *Journal, gen, room int, texts ...string) {
		t.Helper()
		(&pair{t: t, what: "two of one disk", j: j}).is(gen, room, texts...)
	}
	ok := func(e api.Errno) {
		t.Helper()
		if e != api.OK {
			t.Fatalf("P8.2: two of one disk: %d", e)
		}
	}
	ok(one.Append([]byte("a")))
	is(two, 0, 8)
	is(Open(table, d), 0, 7, "a")
	ok(two.Append([]byte("b")))
	is(one, 0, 7, "a")
	is(two, 0, 7, "b")
	is(Open(table, d), 0, 7, "b")
	ok(one.Append([]byte("c")))
	is(two, 0, 7, "b")
	is(Open(table, d), 0, 6, "b", "c")
	ok(one.Compact([]byte("p")))
	ok(one.Append([]byte("d")))
	is(two, 0, 7, "b")
	ok(two.Append(body(45)))
	is(two, 0, 5, "b", string(body(45)))
	is(Open(table, d), 1, 6, "picture p", "d")
	// Of one Gen, to one half: what the first one appended lies behind.
	ok(two.Compact([]byte("q")))
	is(two, 1, 7, "picture q")
	is(one, 1, 6, "picture p", "d")
	is(Open(table, d), 1, 6, "picture q", "d")
	ok(two.Compact([]byte("r")))
	is(Open(table, d), 2, 7, "picture r")
	is(one, 1, 6, "picture p", "d")
	// The one is told that the disk is down, and the other one isn't.
	d.Fuse(0)
	if e := one.Append(nil); e != api.ErrDown {
		t.Errorf("P8.2: %d", e)
	}
	d.Crash(nil)
	if e := one.Append(nil); e != api.ErrDown {
		t.Errorf("P8.2: told so already: %d", e)
	}
	ok(two.Append([]byte("e")))
	is(Open(table, d), 2, 6, "picture r", "e")
}

// TestManyOfOneTable opens many disks with one table, at once.
func TestManyOfOneTable(t *testing.T) {
	table := sha.NewTable()
	ends := make(chan string)
	const many = 32
	for i := range many {
		d, e := disk.New(20)
		go func() {
			j := Open(table, d)
			ok := e == api.OK && j.Append(body(i)) == api.OK && j.Compact(body(100+i)) == api.OK && j.Append(body(2*i)) == api.OK
			got := tells(Open(table, d))
			if want := (told{true, body(100 + i), [][]byte{body(2 * i)}, 1, got.room}); !ok || !same(got, want) || !same(got, tells(j)) {
				ends <- "one of many"
				return
			}
			ends <- ""
		}()
	}
	for range many {
		if s := <-ends; s != "" {
			t.Error("P8.1: " + s)
		}
	}
}

// TestAnotherTable: what was written with one table is told with each other one.
func TestAnotherTable(t *testing.T) {
	d := made(t, 20)
	j := Open(sha.NewTable(), d)
	j.Append(body(9))
	j.Compact(body(90))
	j.Append(body(70))
	for range 3 {
		k := Open(sha.NewTable(), d)
		if !same(tells(k), tells(j)) {
			t.Errorf("P8.1: another table: %v", tells(k))
		}
		k.Append(body(3))
		j = k
	}
	if n := len(j.Records()); n != 4 || !slices.EqualFunc(j.Records()[1:], [][]byte{body(3), body(3), body(3)}, bytes.Equal) {
		t.Errorf("P8.2: %d records", n)
	}
}
