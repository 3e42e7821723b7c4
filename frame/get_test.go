package frame

import (
	"bytes"
	"encoding/binary"
	"math/rand"
	"slices"
	"testing"

	"counterfoil/api"
	"counterfoil/sha"
)

// parts are lengths of Bodies whose frames have one to four sectors, with the
// most and the fewest bytes 0 behind them.
func parts() []int { return []int{0, 1, 5, 38, 39, 40, 41, 101, 102, 103, 165, 166, 200} }

// claim is a head whose length says n, whatever the Body has.
func claim(f Frame, n uint32) []byte {
	h := wantHead(f)
	binary.BigEndian.PutUint32(h[12:], n)
	return h
}

// turned is b, its byte i another one.
func turned(b []byte, i int, c byte) []byte {
	b = bytes.Clone(b)
	b[i] = c
	return b
}

// TestTooFew cuts frames at each place.
func TestTooFew(t *testing.T) {
	table := sha.NewTable()
	for _, n := range parts() {
		b := put(t, table, Frame{1, 2, 3, body(n)}, "cut", n)
		for cut := range b {
			none(t, table, b[:cut], "cut", n, cut)
		}
	}
	for _, n := range sizes() {
		b := put(t, table, Frame{1, 2, 3, body(n)}, "cut", n)
		none(t, table, b[:len(b)-1], "one byte less", n)
		none(t, table, b[:len(b)-64], "one sector less", n)
	}
}

// TestTooFewOfZeros cuts frames whose ends say nothing: the bytes 0 have to be
// there.
func TestTooFewOfZeros(t *testing.T) {
	table := sha.NewTable()
	for _, n := range []int{0, 1, 39, 40, 102, 103, 150} {
		b := put(t, table, Frame{0, 0, 0, make([]byte, n)}, "zeros", n)
		for cut := range b {
			none(t, table, b[:cut], "zeros, cut", n, cut)
		}
	}
}

func TestNoFrame(t *testing.T) {
	table := sha.NewTable()
	for n := range 260 {
		none(t, table, make([]byte, n), "bytes 0", n)
		for _, c := range []byte{1, 2, 'c', 255} {
			none(t, table, bytes.Repeat([]byte{c}, n), "one byte alone", c, n)
		}
		none(t, table, body(n), "bytes", n)
		none(t, table, append([]byte{1, 'c', 'f'}, make([]byte, n)...), "a beginning alone", n)
	}
	none(t, table, nil, "no bytes")
	none(t, table, make([]byte, 1<<20), "many bytes 0")
	none(t, table, bytes.Repeat([]byte{1}, 1<<20), "many marks")
	none(t, table, summed(wantHead(Frame{Body: body(39)}), body(39)), "a text without marks")
	none(t, table, append([]byte{0}, want(Frame{Body: body(39)})...), "a byte ahead of it")
}

// TestEachByteTurned turns each bit of frames, and each byte to others: the
// sum, or what stands about it, tells.
func TestEachByteTurned(t *testing.T) {
	table := sha.NewTable()
	for _, n := range parts() {
		b := put(t, table, Frame{7, 0x01020304, 0x05060708, body(n)}, "turned", n)
		for i, c := range b {
			for bit := range 8 {
				none(t, table, turned(b, i, c^1<<bit), "a bit turned", n, i, bit)
			}
			none(t, table, turned(b, i, ^c), "a byte turned", n, i)
			none(t, table, append(turned(b, i, c+1), b...), "a byte one more", n, i)
		}
	}
	for _, n := range []int{59999, 60000} {
		b := put(t, table, Frame{7, 8, 9, body(n)}, "turned", n)
		for i := 0; i < len(b); i += 997 {
			none(t, table, turned(b, i, ^b[i]), "a byte turned", n, i)
		}
		none(t, table, turned(b, len(b)-1, 1), "the last byte turned", n)
	}
}

// TestMarks turns each mark to each other byte.
func TestMarks(t *testing.T) {
	table := sha.NewTable()
	for _, n := range []int{0, 39, 40, 102, 103, 300} {
		f := Frame{1, 2, 3, body(n)}
		b := put(t, table, f, "marks", n)
		for i := 0; i < len(b); i += 64 {
			for c := range 256 {
				if byte(c) != b[i] {
					none(t, table, turned(b, i, byte(c)), "a mark turned", n, i, c)
				}
			}
		}
		for i := 64; i < len(b); i += 64 {
			none(t, table, turned(turned(b, 0, 2), i, 1), "two marks turned about", n, i)
		}
	}
	b := put(t, table, Frame{1, 2, 3, body(60000)}, "marks")
	for i := 0; i < len(b); i += 64 {
		none(t, table, turned(b, i, 3-b[i]), "a mark turned, of the greatest", i)
	}
}

// TestBeginning turns each byte of the beginning, with a sum that fits: what is
// free to be another one makes another frame, and the rest none.
func TestBeginning(t *testing.T) {
	table := sha.NewTable()
	for _, n := range []int{0, 5, 39, 40} {
		f := Frame{7, 0x01020304, 0x05060708, body(n)}
		for c := range 256 {
			for _, i := range []int{0, 1, 3} {
				head := turned(wantHead(f), i, byte(c))
				if c == int(wantHead(f)[i]) {
					got(t, table, laid(summed(head, f.Body)), f, "the beginning", n, i)
				} else {
					none(t, table, laid(summed(head, f.Body)), "another beginning", n, i, c)
				}
			}
			for i := range 4 {
				low, high := byte(c), 8*(3-i)
				head := turned(wantHead(f), 4+i, low)
				gen := f.Gen&^(255<<high) | c<<high
				got(t, table, laid(summed(head, f.Body)), Frame{7, gen, f.Seq, f.Body}, "Gen", n, i, c)
				head = turned(wantHead(f), 8+i, low)
				seq := f.Seq&^(255<<high) | c<<high
				got(t, table, laid(summed(head, f.Body)), Frame{7, f.Gen, seq, f.Body}, "Seq", n, i, c)
			}
			head := turned(wantHead(f), 2, byte(c))
			got(t, table, laid(summed(head, f.Body)), Frame{c, f.Gen, f.Seq, f.Body}, "Kind", n, c)
		}
	}
}

// TestTwoTurns turns two bytes of the beginning at once, with a sum that fits.
func TestTwoTurns(t *testing.T) {
	table := sha.NewTable()
	f := Frame{7, 8, 9, body(5)}
	for _, start := range [][]byte{
		{'f', 'c', 7, 0}, {'C', 'F', 7, 0}, {0, 0, 7, 0}, {'c' + 1, 'f' - 1, 7, 0},
		{'c', 'f', 0, 7}, {'c', 'g', 7, 1}, {'d', 'f', 7, 1}, {0, 'c', 'f', 7}, {'c' - 1, 'f', 7, 255},
	} {
		head := slices.Concat(start, wantHead(f)[4:])
		none(t, table, laid(summed(head, f.Body)), "another beginning", start)
	}
}

// TestLengthAboveMaxRecord says a length that no Body may have, of a Body that
// is there, with a sum that fits.
func TestLengthAboveMaxRecord(t *testing.T) {
	table := sha.NewTable()
	for _, n := range tooLong() {
		f := Frame{1, 2, 3, body(n)}
		b := laid(summed(wantHead(f), f.Body))
		none(t, table, b, "a length above MaxRecord", n)
		none(t, table, slices.Concat(b, make([]byte, 6400)), "a length above MaxRecord, and more", n)
	}
	f := Frame{1, 2, 3, body(60000)}
	for _, n := range []uint32{60001, 1 << 16, 1<<16 + 60000, 1 << 24, 1<<31 - 1, 1 << 31, 1<<31 + 60000, 1<<32 - 1} {
		b := laid(summed(claim(f, n), f.Body))
		none(t, table, b, "a length alone above MaxRecord", n)
		none(t, table, b[:64], "a length alone above MaxRecord, one sector", n)
	}
	for _, n := range []uint32{1 << 24, 1 << 31, 1<<32 - 1} {
		none(t, table, laid(summed(claim(Frame{}, n), nil)), "a length alone above MaxRecord, no Body", n)
	}
}

// TestLengthAboveWhatIsThere says a length that asks for more sectors than
// there are.
func TestLengthAboveWhatIsThere(t *testing.T) {
	table := sha.NewTable()
	for _, n := range []int{0, 5, 39, 40, 102} {
		f := Frame{1, 2, 3, body(n)}
		for _, more := range []int{40, 102, 103, 166, 59999, 60000} {
			if Sectors(more) > Sectors(n) {
				none(t, table, laid(summed(claim(f, uint32(more)), f.Body)), "a length above what is there", n, more)
			}
		}
	}
}

// TestLengthIsAnother says each length that goes into the same sectors: with a
// sum that fits it is another frame, if nothing is behind its Body.
func TestLengthIsAnother(t *testing.T) {
	table := sha.NewTable()
	f := Frame{1, 2, 3, body(20)}
	for n := range 40 {
		b := laid(summed(claim(f, uint32(n)), f.Body))
		if n != 20 {
			none(t, table, b, "another length, and the sum of this one", n)
		}
		room := append(body(20), make([]byte, 19)...)
		text := append(summed(claim(f, uint32(n)), room[:n]), room[n:]...)
		if n < 20 {
			none(t, table, laid(text), "P7.2: bytes behind the Body", n)
		} else {
			got(t, table, laid(text), Frame{1, 2, 3, room[:n]}, "a longer Body", n)
		}
	}
}

// TestSum turns each byte of the sum to each other one, and puts other sums in
// its place.
func TestSum(t *testing.T) {
	table := sha.NewTable()
	for _, n := range []int{0, 5, 40} {
		f := Frame{1, 2, 3, body(n)}
		text := summed(wantHead(f), f.Body)
		for i := 16; i < 24; i++ {
			for c := range 256 {
				if byte(c) != text[i] {
					none(t, table, laid(turned(text, i, byte(c))), "a byte of the sum", n, i, c)
				}
			}
		}
		for i, other := range [][]byte{
			make([]byte, 8), bytes.Repeat([]byte{255}, 8),
			sha.One(table, f.Body)[:8], sha.One(table, wantHead(f))[:8], sha.One(table, nil)[:8],
			sha.One(table, slices.Concat(f.Body, wantHead(f)))[:8],
			sha.One(table, slices.Concat([]byte{1}, wantHead(f), f.Body))[:8],
			sha.One(table, slices.Concat(wantHead(f), make([]byte, 8), f.Body))[:8],
			sha.One(table, slices.Concat(wantHead(f), f.Body, make([]byte, 39)))[:8],
			sha.One(table, slices.Concat(wantHead(f), f.Body))[8:16],
			sha.One(table, slices.Concat(wantHead(f), f.Body))[24:],
		} {
			if n == 0 && bytes.Equal(other, text[16:24]) {
				continue // the head is all that is summed
			}
			none(t, table, laid(slices.Concat(text[:16], other, f.Body)), "another sum", n, i)
		}
		reversed := bytes.Clone(text)
		slices.Reverse(reversed[16:24])
		none(t, table, laid(reversed), "the sum turned about", n)
	}
}

// TestBehindTheBody sets each byte behind the Body to others than 0, one at a
// time and all.
func TestBehindTheBody(t *testing.T) {
	table := sha.NewTable()
	for _, n := range []int{0, 1, 5, 37, 38, 39, 40, 41, 101, 102, 103, 164, 59951, 59952, 59953, 60000} {
		f := Frame{1, 2, 3, body(n)}
		text := summed(wantHead(f), f.Body)
		space := make([]byte, 63*Sectors(n)-len(text))
		for i := range space {
			for _, c := range []byte{1, 2, 127, 128, 255} {
				none(t, table, laid(append(bytes.Clone(text), turned(space, i, c)...)), "a byte behind the Body", n, i, c)
			}
		}
		if len(space) > 0 {
			none(t, table, laid(append(bytes.Clone(text), bytes.Repeat([]byte{9}, len(space))...)), "all bytes behind the Body", n)
			none(t, table, laid(append(bytes.Clone(text), text[:min(len(space), len(text))]...)), "the text again", n)
		}
		got(t, table, laid(append(text, space...)), f, "bytes 0 behind the Body", n)
	}
}

// TestWhatIsToldIsPut turns, cuts and joins frames at random: what Get tells
// then is what Put makes these sectors of.
func TestWhatIsToldIsPut(t *testing.T) {
	r, table := rand.New(rand.NewSource(72)), sha.NewTable()
	told := 0
	for range 20000 {
		f := Frame{r.Intn(4), r.Intn(4), r.Intn(4), make([]byte, r.Intn(120))}
		head := wantHead(f)
		if r.Intn(4) == 0 {
			head[r.Intn(16)] = byte(r.Intn(130))
		}
		b := laid(append(summed(head, f.Body), make([]byte, r.Intn(100))...))
		for range r.Intn(3) {
			b[r.Intn(len(b))] = byte(r.Intn(3))
		}
		b = b[:len(b)-r.Intn(2)*r.Intn(len(b))]
		g, n, e := Get(table, b)
		if e != api.OK {
			none(t, table, b, "at random")
			continue
		}
		told++
		if n < 1 || len(b) < 64*n || !bytes.Equal(b[:64*n], put(t, table, g, "at random")) {
			t.Fatalf("P7.2: at random: %d sectors, %v of %x", n, g, b)
		}
	}
	if told < 1000 || told > 19000 {
		t.Errorf("P7.2: %d of 20000 are frames: too few, or too many, to hold anything", told)
	}
}
