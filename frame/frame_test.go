package frame

import (
	"bytes"
	"crypto/sha256"
	"encoding/binary"
	"encoding/hex"
	"math"
	"math/rand"
	"slices"
	"strings"
	"testing"

	"counterfoil/api"
	"counterfoil/sha"
)

// body answers n bytes, none of them 0, of which no two sectors are alike.
func body(n int) []byte {
	b := make([]byte, n)
	for i := range b {
		b[i] = byte(1 + (i*i/5+i*7+n)%255)
	}
	return b
}

// wantHead is what stands ahead of the sum, by the library.
func wantHead(f Frame) []byte {
	b := []byte{'c', 'f', byte(f.Kind), 0}
	b = binary.BigEndian.AppendUint32(b, uint32(f.Gen))
	b = binary.BigEndian.AppendUint32(b, uint32(f.Seq))
	return binary.BigEndian.AppendUint32(b, uint32(len(f.Body)))
}

// summed is a text of a head and a Body, with the sum that fits between.
func summed(head, body []byte) []byte {
	all := sha256.Sum256(slices.Concat(head, body))
	return slices.Concat(head, all[:8], body)
}

// laid is a text in sectors, byte by byte.
func laid(text []byte) []byte {
	var b []byte
	for i, c := range text {
		if i == 0 {
			b = append(b, 1)
		} else if i%63 == 0 {
			b = append(b, 2)
		}
		b = append(b, c)
	}
	for len(b)%64 > 0 {
		b = append(b, 0)
	}
	return b
}

// want is f in sectors, in the chapter's words.
func want(f Frame) []byte { return laid(summed(wantHead(f), f.Body)) }

// put answers f in sectors, and holds them against the chapter's words.
func put(t *testing.T, table *sha.Table, f Frame, what string, at ...any) []byte {
	t.Helper()
	b, e := Put(table, f)
	if e != api.OK || !bytes.Equal(b, want(f)) {
		t.Fatalf("P7.1: %s %v: Put of %d bytes: %d, %x", what, at, len(f.Body), e, b)
	}
	if len(b) != 64*Sectors(len(f.Body)) {
		t.Fatalf("P7.1: %s %v: Sectors(%d): %d of %d bytes", what, at, len(f.Body), Sectors(len(f.Body)), len(b))
	}
	return b
}

// got asks for the Frame at b's beginning, twice, which has to be f.
func got(t *testing.T, table *sha.Table, b []byte, f Frame, what string, at ...any) {
	t.Helper()
	for range 2 {
		g, n, e := Get(table, b)
		if e != api.OK || n != (24+len(f.Body)+62)/63 || !same(g, f) {
			t.Fatalf("P7.2: %s %v: Get: %d, %d sectors, %v, not %v", what, at, e, n, g, f)
		}
	}
}

// none asks for the Frame at b's beginning, where none has to be.
func none(t *testing.T, table *sha.Table, b []byte, what string, at ...any) {
	t.Helper()
	g, n, e := Get(table, b)
	if e != api.ErrForm || n != 0 || !same(g, Frame{}) {
		t.Fatalf("P7.2: %s %v: Get: %d, %d sectors, %v", what, at, e, n, g)
	}
}

func same(f, g Frame) bool {
	return f.Kind == g.Kind && f.Gen == g.Gen && f.Seq == g.Seq && bytes.Equal(f.Body, g.Body)
}

// kinds are the edges of a Kind, and some between.
func kinds() []int { return []int{0, 1, 2, 99, 102, 127, 128, 254, 255} }

// fours are the edges of a number in four bytes, and some between.
func fours() []int {
	return []int{0, 1, 2, 255, 256, 65535, 65536, 0x01020304, 1<<24 - 1, 1 << 24, 0xfffefdfc, 1<<31 - 1, 1 << 31, 1<<32 - 2, 1<<32 - 1}
}

// notFours are numbers that do not go into four bytes.
func notFours() []int {
	return []int{1 << 32, 1<<32 + 1, 1<<33 - 1, 1 << 40, 1 << 56, 1<<62 - 1, 1 << 62, 1<<62 + 1, math.MaxInt, -1, -2, -256, -1 << 32, -1<<32 + 1, math.MinInt, math.MinInt + 1}
}

// notKinds are numbers that do not go into one byte.
func notKinds() []int { return append(notFours(), 256, 257, 511, 512, 65535, 65536, 1<<32-1) }

// sizes are the lengths of Bodies that the chapter and the sectors have as
// edges, the greatest but for few.
func sizes() []int {
	return []int{0, 1, 2, 38, 39, 40, 41, 63, 64, 101, 102, 103, 164, 165, 166, 255, 256, 1000, 65 * 63, 256*63 - 25, 256*63 - 24, 256*63 - 23, 59951, 59952, 59953, 59999, 60000}
}

// tooLong are lengths above MaxRecord.
func tooLong() []int { return []int{60001, 60002, 60015, 60016, 65535, 65536, 65537, 1 << 17, 1 << 20} }

func TestSectorsOfEach(t *testing.T) {
	k, end := 1, 63 // sectors, and how much text goes into them
	for n := range api.MaxRecord + 1 {
		if 24+n > end {
			k, end = k+1, end+63
		}
		if got := Sectors(n); got != k {
			t.Fatalf("P7.1: Sectors(%d): %d, not %d", n, got, k)
		}
	}
	for n, want := range map[int]int{0: 1, 39: 1, 40: 2, 102: 2, 103: 3, 59951: 952, 59952: 952, 59953: 953, 60000: 953} {
		if got := Sectors(n); got != want {
			t.Errorf("P7.1: Sectors(%d): %d, not %d", n, got, want)
		}
	}
}

func TestSectorsOfNone(t *testing.T) {
	for _, n := range append(tooLong(), -1, -2, -24, -25, -62, -63, -64, -87, -60000, -1<<32, math.MinInt, math.MinInt+1, 1<<32, 1<<32+39, math.MaxInt-62, math.MaxInt-1, math.MaxInt) {
		if got := Sectors(n); got != 0 {
			t.Errorf("P7.1: Sectors(%d): %d", n, got)
		}
	}
}

// TestKnown holds sectors whose sums were worked out elsewhere.
func TestKnown(t *testing.T) {
	table := sha.NewTable()
	for _, c := range []struct {
		f    Frame
		text string
	}{
		{Frame{}, "01 6366 00 00 00000000 00000000 00000000 6c7776f7182607b5" + strings.Repeat("00", 39)},
		{Frame{2, 3, 258, []byte("hello")}, "01 6366 02 00 00000003 00000102 00000005 4373a00e30577268 68656c6c6f" + strings.Repeat("00", 34)},
		{
			Frame{255, 1<<32 - 1, 0x01020304, bytes.Repeat([]byte{'z'}, 40)},
			"01 6366 ff 00 ffffffff 01020304 00000028 cb8ed32c36ae1afd" + strings.Repeat("7a", 39) + "02 7a" + strings.Repeat("00", 62),
		},
	} {
		want, err := hex.DecodeString(strings.ReplaceAll(c.text, " ", ""))
		if err != nil {
			t.Fatal(err)
		}
		if b, e := Put(table, c.f); e != api.OK || !bytes.Equal(b, want) {
			t.Errorf("P7.1: %v: %d, %x", c.f, e, b)
		}
		got(t, table, want, c.f, "known")
	}
}

// TestPut puts Bodies of each length up to some sectors, and of each edge.
func TestPut(t *testing.T) {
	table := sha.NewTable()
	for n := range 500 {
		put(t, table, Frame{n % 256, n * 1000003, n * 70001, body(n)}, "each length")
		put(t, table, Frame{1, 2, 3, make([]byte, n)}, "bytes 0")
		put(t, table, Frame{1, 2, 3, bytes.Repeat([]byte{255}, n)}, "bytes 255")
	}
	for _, n := range sizes() {
		put(t, table, Frame{2, 3, 4, body(n)}, "edges")
	}
}

// TestNumbers puts each Kind, and each edge of Gen and Seq beside each other.
func TestNumbers(t *testing.T) {
	table := sha.NewTable()
	for kind := range 256 {
		f := Frame{kind, 7, 8, body(3)}
		got(t, table, put(t, table, f, "Kind", kind), f, "Kind", kind)
	}
	for _, kind := range kinds() {
		for _, gen := range fours() {
			for _, seq := range fours() {
				f := Frame{kind, gen, seq, body(3)}
				got(t, table, put(t, table, f, "numbers", kind, gen, seq), f, "numbers", kind, gen, seq)
			}
		}
	}
	for i := range 32 {
		for _, f := range []Frame{{Gen: 1 << i}, {Seq: 1 << i}} {
			got(t, table, put(t, table, f, "bit", i), f, "bit", i)
		}
	}
}

// refused holds that Put answers e, and nothing.
func refused(t *testing.T, table *sha.Table, f Frame, e api.Errno) {
	t.Helper()
	if b, got := Put(table, f); got != e || len(b) > 0 {
		t.Errorf("P7.1: Kind %d, Gen %d, Seq %d, %d bytes: %d, %x", f.Kind, f.Gen, f.Seq, len(f.Body), got, b)
	}
}

func TestOutOfRange(t *testing.T) {
	table := sha.NewTable()
	for _, n := range []int{0, 5, 40, api.MaxRecord} {
		for _, x := range notKinds() {
			refused(t, table, Frame{Kind: x, Gen: 1, Seq: 2, Body: body(n)}, api.ErrRange)
		}
		for _, x := range notFours() {
			refused(t, table, Frame{Kind: 1, Gen: x, Seq: 2, Body: body(n)}, api.ErrRange)
			refused(t, table, Frame{Kind: 1, Gen: 2, Seq: x, Body: body(n)}, api.ErrRange)
			refused(t, table, Frame{Kind: x, Gen: x, Seq: x, Body: body(n)}, api.ErrRange)
			refused(t, table, Frame{Kind: -1, Gen: 1, Seq: x, Body: body(n)}, api.ErrRange)
			refused(t, table, Frame{Kind: 256, Gen: x, Seq: 1, Body: body(n)}, api.ErrRange)
			refused(t, table, Frame{Kind: 0, Gen: x, Seq: -1, Body: body(n)}, api.ErrRange)
		}
	}
}

// TestTooLong: ErrLong comes first, whatever the numbers are.
func TestTooLong(t *testing.T) {
	table := sha.NewTable()
	for _, n := range tooLong() {
		refused(t, table, Frame{Body: body(n)}, api.ErrLong)
		refused(t, table, Frame{Kind: 255, Gen: 1<<32 - 1, Seq: 1<<32 - 1, Body: body(n)}, api.ErrLong)
	}
	for _, x := range notKinds() {
		refused(t, table, Frame{Kind: x, Body: make([]byte, 60001)}, api.ErrLong)
		refused(t, table, Frame{Kind: x, Gen: x, Seq: x, Body: make([]byte, 70000)}, api.ErrLong)
	}
	for _, x := range notFours() {
		refused(t, table, Frame{Gen: x, Body: make([]byte, 60001)}, api.ErrLong)
		refused(t, table, Frame{Seq: x, Body: make([]byte, 60001)}, api.ErrLong)
	}
}

// TestGetOfPut gets what was put, of each length up to some sectors and of each
// edge, with whatever behind it.
func TestGetOfPut(t *testing.T) {
	table := sha.NewTable()
	for _, n := range append(sizes(), seq(300)...) {
		f := Frame{n % 256, n, 1<<32 - 1 - n, body(n)}
		b := put(t, table, f, "Get of Put")
		got(t, table, b, f, "P7.4: alone", n)
		for _, more := range behind(t, table) {
			got(t, table, slices.Concat(b, more), f, "P7.4: with more behind it", n, len(more))
		}
	}
}

// seq are the numbers below n.
func seq(n int) []int {
	l := make([]int, n)
	for i := range l {
		l[i] = i
	}
	return l
}

// behind are bytes that may lie behind a frame.
func behind(t *testing.T, table *sha.Table) [][]byte {
	t.Helper()
	l := [][]byte{{0}, {1}, {2}, {255}, put(t, table, Frame{1, 2, 3, body(50)}, "behind")}
	for _, n := range []int{62, 63, 64, 65, 128, 1000} {
		l = append(l, make([]byte, n), bytes.Repeat([]byte{1}, n), bytes.Repeat([]byte{2}, n), body(n))
	}
	return l
}

// TestOneBehindTheOther gets frames of a long text by the sectors that each of
// them has.
func TestOneBehindTheOther(t *testing.T) {
	table := sha.NewTable()
	var all []byte
	var l []Frame
	for i, n := range append(sizes(), 0, 0, 39, 40, 0, 102, 103) {
		f := Frame{i, i + 1, i + 2, body(n)}
		l = append(l, f)
		all = append(all, put(t, table, f, "one behind the other", i)...)
	}
	// As much as the greatest disk has may lie behind.
	all = append(all, make([]byte, api.MaxSectors*api.Sector)...)
	for i, want := range l {
		f, n, e := Get(table, all)
		if e != api.OK || !same(f, want) || n != Sectors(len(want.Body)) {
			t.Fatalf("P7.2: frame %d: %d, %d sectors, %v", i, e, n, f)
		}
		all = all[64*n:]
	}
	none(t, table, all, "behind the last")
}

// TestBodiesThatSpell puts Bodies that look like what stands about a Body.
func TestBodiesThatSpell(t *testing.T) {
	table := sha.NewTable()
	inner := put(t, table, Frame{2, 3, 4, []byte("spelled")}, "inner")
	outer := put(t, table, Frame{2, 3, 5, inner}, "outer")
	for i, b := range [][]byte{
		inner, inner[1:], outer, outer[1:], slices.Concat(inner, inner, outer),
		[]byte("cf"), bytes.Repeat([]byte("cf"), 100), {1}, {2}, {0},
		bytes.Repeat([]byte{1}, 39), bytes.Repeat([]byte{1}, 40), bytes.Repeat([]byte{1}, 200),
		bytes.Repeat([]byte{2}, 39), bytes.Repeat([]byte{2}, 40), bytes.Repeat([]byte{2}, 200),
		make([]byte, 1), make([]byte, 39), make([]byte, 40), make([]byte, 200), append(body(30), make([]byte, 20)...),
	} {
		f := Frame{2, 3, 6, b}
		got(t, table, put(t, table, f, "spells", i), f, "P7.4: spells", i)
	}
}

// TestSpelledIsNoBeginning: a Body that has a frame where its second sector
// begins is no frame from there on, whatever it spells.
func TestSpelledIsNoBeginning(t *testing.T) {
	table := sha.NewTable()
	for _, n := range []int{0, 7, 39, 40, 150} {
		inner := put(t, table, Frame{2, 3, 4, body(n)}, "inner", n)
		for _, start := range [][]byte{inner, inner[1:]} {
			b := put(t, table, Frame{2, 3, 5, append(body(39), start...)}, "outer", n)
			for at := 64; at < len(b); at += 64 {
				none(t, table, b[at:], "from a later sector on", n, at)
			}
		}
	}
}

// TestTables holds that a frame is told in the same way by each table, and
// by one that was asked often.
func TestTables(t *testing.T) {
	r, table := rand.New(rand.NewSource(7)), sha.NewTable()
	for range 500 {
		f := Frame{r.Intn(256), int(r.Uint32()), int(r.Uint32()), make([]byte, r.Intn(300))}
		r.Read(f.Body)
		b := put(t, table, f, "one table")
		got(t, table, b, f, "one table")
		got(t, sha.NewTable(), b, f, "a table that Get asks first")
		if again, e := Put(sha.NewTable(), f); e != api.OK || !bytes.Equal(again, b) {
			t.Fatalf("P7.1: another table: %d, %x", e, again)
		}
		none(t, sha.NewTable(), b[1:], "a table that nobody asks")
	}
}
