package wire

import (
	"bytes"
	"encoding/binary"
	"math"
	"math/rand"
	"testing"

	"counterfoil/api"
)

const most = api.MaxAmount

// text answers n bytes of which hardly one is like the next.
func text(n int) []byte {
	b := make([]byte, n)
	rand.New(rand.NewSource(int64(n) + 4)).Read(b)
	return b
}

// spoil turns b, and its spare room.
func spoil(b []byte) {
	b = b[:cap(b)]
	for i := range b {
		b[i] ^= 0xff
	}
}

// greatest is the greatest number that goes into size bytes.
func greatest(size int) int {
	if size == 8 {
		return most
	}
	return 1<<(8*size) - 1
}

// bigEndian is n in size bytes by the library.
func bigEndian(n uint64, size int) []byte {
	return binary.BigEndian.AppendUint64(nil, n)[8-size:]
}

// numbers are those that the chapter names, the bounds of each size, and
// their neighbours.
func numbers() []int {
	l := []int{math.MinInt, math.MinInt + 1, -most - 1, -most, -256, -2, -1, 0, 1, 2, 258, most - 1, most, most + 1, math.MaxInt - 1, math.MaxInt}
	for size := 1; size < 8; size++ {
		g := greatest(size)
		l = append(l, g/2, g/2+1, g-1, g, g+1, g+2, -g-1)
	}
	return l
}

func noSizes() []int {
	return []int{math.MinInt, -1 << 32, -256, -64, -8, -2, -1, 0, 9, 10, 16, 64, 257, 264, 1<<32 + 1, math.MaxInt}
}

// written is what Done answers behind one Num.
func written(n, size int) ([]byte, api.Errno) {
	e := NewEnc()
	e.Num(n, size)
	return e.Done()
}

// TestLimits holds the limits by their values: the other tests lean on api's.
func TestLimits(t *testing.T) {
	if most != 4611686018427387904 || api.OK != 0 || api.ErrRange != 1 || api.ErrForm != 2 || api.ErrLong != 3 {
		t.Error("the limits or the numbers of api are others")
	}
}

// TestEncNumWritten holds some bytes as they are read off the chapter.
func TestEncNumWritten(t *testing.T) {
	for _, c := range []struct {
		n, size int
		want    []byte
	}{
		{258, 2, []byte{1, 2}},
		{0, 1, []byte{0}},
		{0, 8, []byte{0, 0, 0, 0, 0, 0, 0, 0}},
		{7, 3, []byte{0, 0, 7}},
		{255, 1, []byte{255}},
		{0x010203, 3, []byte{1, 2, 3}},
		{0x0102030405060708, 8, []byte{1, 2, 3, 4, 5, 6, 7, 8}},
		{0xfffefdfcfbfaf9, 7, []byte{0xff, 0xfe, 0xfd, 0xfc, 0xfb, 0xfa, 0xf9}},
		{most, 8, []byte{64, 0, 0, 0, 0, 0, 0, 0}},
		{most - 1, 8, []byte{63, 255, 255, 255, 255, 255, 255, 255}},
	} {
		if b, e := written(c.n, c.size); e != api.OK || !bytes.Equal(b, c.want) {
			t.Errorf("P4.1: Num(%d, %d): %v, %d", c.n, c.size, b, e)
		}
	}
}

func TestEncNumEdges(t *testing.T) {
	for _, n := range numbers() {
		for size := 1; size <= 8; size++ {
			b, e := written(n, size)
			if n < 0 || n > greatest(size) {
				if e != api.ErrRange || len(b) > 0 {
					t.Errorf("P4.1: Num(%d, %d) does not go: %v, %d", n, size, b, e)
				}
			} else if e != api.OK || !bytes.Equal(b, bigEndian(uint64(n), size)) {
				t.Errorf("P4.1: Num(%d, %d): %v, %d", n, size, b, e)
			}
		}
		for _, size := range noSizes() {
			if b, e := written(n, size); e != api.ErrRange || len(b) > 0 {
				t.Errorf("P4.1: Num(%d, %d) has no size: %v, %d", n, size, b, e)
			}
		}
	}
}

// TestEncBytes writes texts of every length up to some, and of those about the
// longest.
func TestEncBytes(t *testing.T) {
	sizes := []int{65279, 65280, 65534, 65535}
	for n := range 600 {
		sizes = append(sizes, n)
	}
	for _, n := range sizes {
		e := NewEnc()
		e.Bytes(text(n))
		want := append([]byte{byte(n / 256), byte(n % 256)}, text(n)...)
		if b, err := e.Done(); err != api.OK || !bytes.Equal(b, want) {
			t.Errorf("P4.1: a text of %d bytes: %d bytes, %d", n, len(b), err)
		}
	}
	for _, n := range []int{65536, 65537, 1<<17 - 1, 1 << 17, 1<<24 + 1} {
		e := NewEnc()
		e.Bytes(make([]byte, n))
		if b, err := e.Done(); err != api.ErrLong || len(b) > 0 {
			t.Errorf("P4.1: a text of %d bytes: %d bytes, %d", n, len(b), err)
		}
	}
	for _, none := range [][]byte{nil, {}, text(9)[:0]} {
		e := NewEnc()
		e.Bytes(none)
		if b, err := e.Done(); err != api.OK || !bytes.Equal(b, []byte{0, 0}) {
			t.Errorf("P4.1: an empty text: %v, %d", b, err)
		}
	}
}

// TestDoneInTheMiddle asks behind each write, twice, and writes on.
func TestDoneInTheMiddle(t *testing.T) {
	e := NewEnc()
	var want []byte
	for i := range 300 {
		for range 2 {
			if b, err := e.Done(); err != api.OK || !bytes.Equal(b, want) {
				t.Fatalf("P4.1: Done behind %d writes: %v, %d", i, b, err)
			}
		}
		if i%3 == 0 {
			e.Bytes(text(i % 7))
			want = append(append(want, 0, byte(i%7)), text(i%7)...)
		} else {
			e.Num(i, i%7+2)
			want = append(want, bigEndian(uint64(i), i%7+2)...)
		}
	}
}

// wrongWrites each have an error.
func wrongWrites() map[api.Errno][]func(e *Enc) {
	num := func(n, size int) func(e *Enc) { return func(e *Enc) { e.Num(n, size) } }
	return map[api.Errno][]func(e *Enc){
		api.ErrRange: {num(-1, 8), num(256, 1), num(most+1, 8), num(0, 0), num(0, 9), num(0, -1)},
		api.ErrLong:  {func(e *Enc) { e.Bytes(make([]byte, 65536)) }},
	}
}

// TestEncFirstError puts each wrong write behind something and behind nothing,
// and right ones and wrong ones behind it: the first error stays, alone.
func TestEncFirstError(t *testing.T) {
	for want, l := range wrongWrites() {
		for i, wrong := range l {
			for _, ahead := range []int{0, 1, 5} {
				e := NewEnc()
				for range ahead {
					e.Bytes(text(40))
				}
				wrong(e)
				check := func(behind string) {
					t.Helper()
					for range 2 {
						if b, err := e.Done(); err != want || len(b) > 0 {
							t.Errorf("P4.1: error %d, case %d, %s: %d bytes, %d", want, i, behind, len(b), err)
						}
					}
				}
				check("at once")
				e.Num(3, 1)
				e.Num(most, 8)
				check("a number behind it")
				e.Bytes(text(3))
				e.Bytes(nil)
				check("a text behind it")
				for _, all := range wrongWrites() {
					for _, other := range all {
						other(e)
						check("another error behind it")
					}
				}
			}
		}
	}
}

func TestNothingWritten(t *testing.T) {
	e := NewEnc()
	for range 2 {
		if b, err := e.Done(); err != api.OK || len(b) > 0 {
			t.Errorf("P4.1: nothing: %v, %d", b, err)
		}
	}
	e.Num(9, 1)
	if b, err := e.Done(); err != api.OK || !bytes.Equal(b, []byte{9}) {
		t.Errorf("P4.1: written behind nothing: %v, %d", b, err)
	}
}

// decState is what a Dec tells of itself.
type decState struct {
	left     int
	err, end api.Errno
}

func stateOf(d *Dec) decState { return decState{d.Left(), d.Err(), d.End()} }

// holds asks twice: asking changes nothing.
func holds(t *testing.T, d *Dec, want decState, what string, at ...int) {
	t.Helper()
	for range 2 {
		if got := stateOf(d); got != want {
			t.Errorf("P4.2: %s %v: %v, not %v", what, at, got, want)
		}
	}
}

// TestDecNumSizes reads a number of each size out of longer and longer bytes.
func TestDecNumSizes(t *testing.T) {
	for size := 1; size <= 8; size++ {
		for have := range 20 {
			b := text(have)
			if have > 0 {
				b[0] &= 0x3f
			}
			d := NewDec(b)
			n := d.Num(size)
			if have < size {
				if n != 0 {
					t.Errorf("P4.2: Num(%d) of %d bytes: %d", size, have, n)
				}
				holds(t, d, decState{have, api.ErrForm, api.ErrForm}, "too few bytes", size, have)
				continue
			}
			wide := append(make([]byte, 8-size), b[:size]...)
			if n != int(binary.BigEndian.Uint64(wide)) {
				t.Errorf("P4.2: Num(%d) of %d bytes: %d", size, have, n)
			}
			want := decState{have - size, api.OK, api.ErrForm}
			if have == size {
				want.end = api.OK
			}
			holds(t, d, want, "a number", size, have)
		}
	}
}

func TestDecNumEdges(t *testing.T) {
	for size := 1; size <= 8; size++ {
		for _, n := range numbers() {
			if n < 0 || n > greatest(size) {
				continue
			}
			d := NewDec(append(bigEndian(uint64(n), size), 77))
			if got := d.Num(size); got != n {
				t.Errorf("P4.2: Num(%d): %d, not %d", size, got, n)
			}
			holds(t, d, decState{1, api.OK, api.ErrForm}, "a number", size, n)
			if got := d.Num(1); got != 77 {
				t.Errorf("P4.2: behind Num(%d): %d", size, got)
			}
			holds(t, d, decState{}, "a number behind a number", size, n)
		}
	}
}

// TestDecNumAbove reads eight bytes that are more than an amount.
func TestDecNumAbove(t *testing.T) {
	for _, n := range []uint64{most + 1, most + 2, 1<<62 + 1<<61, math.MaxInt64 - 1, math.MaxInt64, 1 << 63, 1<<63 + 1, 1<<63 + most, math.MaxUint64 - 1, math.MaxUint64} {
		for behind := range 3 {
			b := append(bigEndian(n, 8), text(behind)...)
			d := NewDec(b)
			if got := d.Num(8); got != 0 {
				t.Errorf("P4.2: Num(8) of %x: %d", b, got)
			}
			holds(t, d, decState{len(b), api.ErrForm, api.ErrForm}, "above MaxAmount", behind)
			if d.Num(1) != 0 || d.Num(7) != 0 || len(d.Bytes()) > 0 {
				t.Errorf("P4.2: something is answered behind %x", b)
			}
			holds(t, d, decState{len(b), api.ErrForm, api.ErrForm}, "behind a number above MaxAmount", behind)
		}
	}
}

func TestDecNumNoSize(t *testing.T) {
	for _, size := range noSizes() {
		for _, have := range []int{0, 1, 8, 9, 300} {
			d := NewDec(text(have))
			if n := d.Num(size); n != 0 {
				t.Errorf("P4.2: Num(%d) of %d bytes: %d", size, have, n)
			}
			holds(t, d, decState{have, api.ErrRange, api.ErrRange}, "no size", size, have)
		}
	}
}

func TestDecBytes(t *testing.T) {
	for _, n := range []int{0, 1, 2, 7, 8, 9, 254, 255, 256, 257, 511, 512, 65279, 65280, 65534, 65535} {
		whole := append([]byte{byte(n / 256), byte(n % 256)}, text(n)...)
		for _, behind := range []int{0, 1, 2, 3, 70000} {
			d := NewDec(append(bytes.Clone(whole), text(behind)...))
			if got := d.Bytes(); !bytes.Equal(got, text(n)) {
				t.Errorf("P4.2: a text of %d bytes, %d behind it: %d bytes", n, behind, len(got))
			}
			want := decState{behind, api.OK, api.ErrForm}
			if behind == 0 {
				want.end = api.OK
			}
			holds(t, d, want, "a text", n, behind)
		}
	}
}

// TestDecBytesCutShort ends a text's bytes at each place.
func TestDecBytesCutShort(t *testing.T) {
	for _, n := range []int{0, 1, 2, 3, 40, 255, 256, 300, 65535} {
		whole := append([]byte{byte(n / 256), byte(n % 256)}, text(n)...)
		for cut := range len(whole) {
			if n > 300 && cut > 40 && cut < len(whole)-3 {
				continue
			}
			d := NewDec(whole[:cut:cut])
			if got := d.Bytes(); len(got) > 0 {
				t.Errorf("P4.2: a text of %d bytes cut at %d: %d bytes", n, cut, len(got))
			}
			holds(t, d, decState{cut, api.ErrForm, api.ErrForm}, "a text cut short", n, cut)
		}
	}
}

// wrongReads each have an error where the bytes 0, 3, 1, 2 are left.
func wrongReads() map[api.Errno][]func(d *Dec) {
	num := func(size int) func(d *Dec) { return func(d *Dec) { d.Num(size) } }
	return map[api.Errno][]func(d *Dec){
		api.ErrRange: {num(0), num(9), num(-1)},
		api.ErrForm:  {num(5), num(8), func(d *Dec) { d.Bytes() }},
	}
}

// TestDecFirstError puts each wrong read behind a right one, and right ones
// and wrong ones behind it: the first error and what is left stay.
func TestDecFirstError(t *testing.T) {
	for want, l := range wrongReads() {
		for i, wrong := range l {
			d := NewDec([]byte{9, 0, 1, 'x', 0, 3, 1, 2})
			if d.Num(1) != 9 || string(d.Bytes()) != "x" {
				t.Fatal("P4.2: what stands ahead of the error")
			}
			holds(t, d, decState{4, api.OK, api.ErrForm}, "ahead of the error", i)
			wrong(d)
			still := decState{4, want, want}
			holds(t, d, still, "at once", i)
			for _, size := range []int{1, 2, 4} {
				if n := d.Num(size); n != 0 {
					t.Errorf("P4.2: error %d, case %d: Num(%d) behind it: %d", want, i, size, n)
				}
				holds(t, d, still, "a number behind the error", i, size)
			}
			if b := d.Bytes(); len(b) > 0 {
				t.Errorf("P4.2: error %d, case %d: Bytes behind it: %v", want, i, b)
			}
			for _, all := range wrongReads() {
				for _, other := range all {
					other(d)
					holds(t, d, still, "another error behind the error", i)
				}
			}
		}
	}
}

// TestDecErrorWithNothingLeft: an error stays where there is nothing to read.
func TestDecErrorWithNothingLeft(t *testing.T) {
	for want, read := range map[api.Errno]func(d *Dec){
		api.ErrRange: func(d *Dec) { d.Num(9) },
		api.ErrForm:  func(d *Dec) { d.Num(1) },
	} {
		d := NewDec([]byte{5})
		d.Num(1)
		holds(t, d, decState{}, "all is read")
		read(d)
		holds(t, d, decState{0, want, want}, "an error behind all")
		if d.Num(1) != 0 || len(d.Bytes()) > 0 {
			t.Errorf("P4.2: something is answered behind error %d", want)
		}
		holds(t, d, decState{0, want, want}, "reads behind an error behind all")
	}
}

// TestEndIsNoError asks End where bytes are left, and reads on.
func TestEndIsNoError(t *testing.T) {
	d := NewDec([]byte{1, 0, 1, 'y', 2})
	holds(t, d, decState{5, api.OK, api.ErrForm}, "nothing is read")
	if n := d.Num(1); n != 1 {
		t.Errorf("P4.2: Num behind End: %d", n)
	}
	holds(t, d, decState{4, api.OK, api.ErrForm}, "a number is read")
	if b := d.Bytes(); string(b) != "y" {
		t.Errorf("P4.2: Bytes behind End: %q", b)
	}
	holds(t, d, decState{1, api.OK, api.ErrForm}, "a text is read")
	if n := d.Num(1); n != 2 {
		t.Errorf("P4.2: Num behind End: %d", n)
	}
	holds(t, d, decState{}, "all is read")
}

func TestNothingToRead(t *testing.T) {
	for _, none := range [][]byte{nil, {}, text(20)[:0]} {
		holds(t, NewDec(none), decState{}, "nothing")
		d := NewDec(none)
		if b := d.Bytes(); len(b) > 0 {
			t.Errorf("P4.2: a text of nothing: %v", b)
		}
		holds(t, d, decState{0, api.ErrForm, api.ErrForm}, "a text of nothing")
	}
}

// TestHandedInStays looks at what was handed in, and at what lies behind it.
func TestHandedInStays(t *testing.T) {
	for _, n := range []int{0, 1, 2, 7, 8, 9, 300} {
		room := text(n + 100)
		was := bytes.Clone(room)
		e := NewEnc()
		e.Bytes(room[:n])
		e.Num(1, 8)
		b, _ := e.Done()
		if want := append(bytes.Clone(b[:2]), append(bytes.Clone(was[:n]), 0, 0, 0, 0, 0, 0, 0, 1)...); !bytes.Equal(b, want) {
			t.Errorf("P4.3: Enc, a text of %d bytes with room: %v", n, b)
		}
		d := NewDec(room[:n])
		spoil(d.Bytes())
		d.Num(1)
		d = NewDec(room[:n])
		for range n {
			d.Num(1)
		}
		holds(t, d, decState{}, "to the end of what has room", n)
		if d.Num(1) != 0 || d.Err() != api.ErrForm {
			t.Errorf("P4.3: Dec reads behind the length, %d", n)
		}
		if !bytes.Equal(room, was) {
			t.Errorf("P4.3: %d bytes were changed, or what lies behind them", n)
		}
	}
}

// TestHandedInIsNotKept spoils each thing behind the call it was handed to.
func TestHandedInIsNotKept(t *testing.T) {
	for _, n := range []int{1, 2, 9, 300, 65535} {
		e := NewEnc()
		var want []byte
		for range 3 {
			part := text(n)
			e.Bytes(part)
			spoil(part)
			want = append(append(want, byte(n/256), byte(n%256)), text(n)...)
		}
		b, _ := e.Done()
		if !bytes.Equal(b, want) {
			t.Errorf("P4.3: Enc keeps a text of %d bytes", n)
		}
		d := NewDec(b)
		spoil(b)
		for range 3 {
			if got := d.Bytes(); !bytes.Equal(got, text(n)) {
				t.Errorf("P4.3: Dec keeps what holds a text of %d bytes", n)
			}
		}
	}
}

// TestAnswersAreNew spoils each answer: no other one shows it.
func TestAnswersAreNew(t *testing.T) {
	e := NewEnc()
	var done, want [][]byte
	for i := range 40 {
		e.Bytes(text(i))
		one, _ := e.Done()
		two, _ := e.Done()
		want = append(want, bytes.Clone(one))
		spoil(two)
		done = append(done, one)
	}
	for i, b := range done {
		if !bytes.Equal(b, want[i]) {
			t.Errorf("P4.3: Done behind %d texts is not new", i+1)
		}
		spoil(b)
	}
	all, _ := e.Done()
	if !bytes.Equal(all, want[39]) {
		t.Error("P4.3: a spoiled answer of Done shows in a later one")
	}
	d := NewDec(all)
	var read [][]byte
	for i := range 40 {
		b := d.Bytes()
		if !bytes.Equal(b, text(i)) {
			t.Errorf("P4.3: a spoiled text shows in that of %d bytes", i)
		}
		if i%2 == 0 {
			spoil(b)
			b = text(i)
		}
		read = append(read, b)
	}
	for i, b := range read {
		if !bytes.Equal(b, text(i)) {
			t.Errorf("P4.3: the text of %d bytes is not new", i)
		}
		spoil(b)
	}
	if !bytes.Equal(all, want[39]) {
		t.Error("P4.3: a spoiled text shows in what was handed in")
	}
}

// TestAnswerAsArgument writes what was answered into what answered it.
func TestAnswerAsArgument(t *testing.T) {
	e := NewEnc()
	e.Num(5, 1)
	for range 3 {
		b, _ := e.Done()
		e.Bytes(b)
	}
	b, _ := e.Done()
	if want := []byte{5, 0, 1, 5, 0, 4, 5, 0, 1, 5, 0, 10, 5, 0, 1, 5, 0, 4, 5, 0, 1, 5}; !bytes.Equal(b, want) {
		t.Errorf("P4.3: %v", b)
	}
}

// TestSideBySide writes to two and reads from two by turns.
func TestSideBySide(t *testing.T) {
	one, other := NewEnc(), NewEnc()
	for i := range 50 {
		one.Num(i, 2)
		other.Bytes(text(i))
	}
	other.Num(-1, 1)
	b, e := one.Done()
	if _, err := other.Done(); e != api.OK || err != api.ErrRange || len(b) != 100 {
		t.Fatalf("P4.1: two side by side: %d bytes, %d, %d", len(b), e, err)
	}
	d, twin := NewDec(b), NewDec(b)
	twin.Num(0)
	for i := range 50 {
		if n := d.Num(2); n != i {
			t.Errorf("P4.2: two side by side: %d, not %d", n, i)
		}
	}
	holds(t, d, decState{}, "one of two")
	holds(t, twin, decState{100, api.ErrRange, api.ErrRange}, "the other of two")
}

// item is a text, or a number where size isn't 0.
type item struct {
	n, size int
	text    []byte
}

func someItems(r *rand.Rand) []item {
	l := make([]item, r.Intn(12))
	for i := range l {
		if r.Intn(2) == 0 {
			l[i].text = text(r.Intn(300))
			continue
		}
		size := 1 + r.Intn(8)
		l[i] = item{size: size, n: r.Intn(greatest(size)) + r.Intn(2)}
	}
	return l
}

func (it item) write(e *Enc) {
	if it.size > 0 {
		e.Num(it.n, it.size)
	} else {
		e.Bytes(it.text)
	}
}

// readBack tells if d reads just this.
func (it item) readBack(d *Dec) bool {
	if it.size > 0 {
		return d.Num(it.size) == it.n
	}
	return bytes.Equal(d.Bytes(), it.text)
}

// length is how many bytes it has when it is written.
func (it item) length() int {
	if it.size > 0 {
		return it.size
	}
	return 2 + len(it.text)
}

func TestWhatWasWrittenIsRead(t *testing.T) {
	r := rand.New(rand.NewSource(4))
	for range 1000 {
		l := someItems(r)
		e := NewEnc()
		for _, it := range l {
			it.write(e)
		}
		b, err := e.Done()
		if err != api.OK {
			t.Fatalf("P4.4: %v: %d", l, err)
		}
		d := NewDec(b)
		left := len(b)
		for i, it := range l {
			left -= it.length()
			if !it.readBack(d) || d.Left() != left || d.Err() != api.OK {
				t.Fatalf("P4.4: item %d of %v: %d left, %d", i, l, d.Left(), d.Err())
			}
		}
		holds(t, d, decState{}, "all is read back")
	}
}

// TestCutAtEachPlace cuts what was written: what is whole is read, and the
// first item that isn't has the error, its own bytes left.
func TestCutAtEachPlace(t *testing.T) {
	l := []item{{n: 258, size: 2}, {text: text(5)}, {n: most, size: 8}, {}, {text: text(260)}, {n: 1, size: 7}, {n: 0, size: 1}}
	e := NewEnc()
	for _, it := range l {
		it.write(e)
	}
	b, _ := e.Done()
	for cut := range len(b) {
		d := NewDec(b[:cut])
		at := 0
		for _, it := range l {
			if at+it.length() > cut {
				break
			}
			at += it.length()
			if !it.readBack(d) {
				t.Errorf("P4.4: cut at %d: what ends at %d is not read", cut, at)
			}
		}
		still := 0
		for _, it := range l {
			if still += it.length(); still <= at {
				continue
			}
			if it.size > 0 && d.Num(it.size) != 0 || it.size == 0 && len(d.Bytes()) > 0 {
				t.Errorf("P4.2: cut at %d: something is answered behind the cut", cut)
			}
			holds(t, d, decState{cut - at, api.ErrForm, api.ErrForm}, "cut", cut)
		}
	}
}

// TestManyWrites holds that a long answer is whole.
func TestManyWrites(t *testing.T) {
	e := NewEnc()
	for i := range 200000 {
		e.Num(i, 3)
	}
	for range 40 {
		e.Bytes(text(65535))
	}
	b, err := e.Done()
	if err != api.OK || len(b) != 600000+40*65537 {
		t.Fatalf("P4.1: many writes: %d bytes, %d", len(b), err)
	}
	d := NewDec(b)
	for i := range 200000 {
		if n := d.Num(3); n != i {
			t.Fatalf("P4.4: %d, not %d", n, i)
		}
	}
	for range 40 {
		if !bytes.Equal(d.Bytes(), text(65535)) {
			t.Fatal("P4.4: a long text")
		}
	}
	holds(t, d, decState{}, "many writes")
}
