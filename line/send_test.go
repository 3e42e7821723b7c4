package line_test

import (
	"math"
	"testing"

	"counterfoil/api"
	"counterfoil/line"
	"counterfoil/seal"
)

func TestNew(t *testing.T) {
	for _, c := range []struct{ seq, want int }{
		{0, 0}, {1, 1}, {2, 2}, {255, 255}, {256, 256}, {65535, 65535}, {65536, 65536},
		{1<<31 - 1, 1<<31 - 1}, {1 << 31, 1 << 31}, {1<<31 + 1, 1<<31 + 1},
		{1<<32 - 2, 1<<32 - 2}, {1<<32 - 1, 1<<32 - 1}, {1 << 32, 0}, {1<<32 + 1, 0}, {1<<33 - 1, 0}, {1 << 62, 0},
		{-1, 0}, {-2, 0}, {-1 << 31, 0}, {-1<<32 + 1, 0}, {-1 << 32, 0}, {-1<<32 - 1, 0},
		{math.MaxInt, 0}, {math.MaxInt - 1, 0}, {math.MinInt, 0}, {math.MinInt + 1, 0},
	} {
		for _, party := range ids() {
			for _, which := range ids() {
				l := line.New(party, which, c.seq)
				n, ok := l.Again()
				if l.Seq() != c.want || l.Busy() || ok || !same(n, seal.Note{}) {
					t.Fatalf("P16.1: New(%d, %d, %d): Seq %d, Busy %t, Again %t, %s", party, which, c.seq, l.Seq(), l.Busy(), ok, show(n))
				}
			}
		}
	}
}

// TestSend looks at each field of the first note, of each party and ledger.
func TestSend(t *testing.T) {
	for _, party := range ids() {
		for _, which := range ids() {
			l := line.New(party, which, 7)
			n, e := l.Send([]byte("hey"))
			if e != api.OK || n.Party != party || n.Ledger != which || n.Way != seal.Ask || n.Seq != 8 || string(n.Body) != "hey" {
				t.Errorf("P16.1: Send of party %d to ledger %d: %s, %d", party, which, show(n), e)
			}
			if l.Seq() != 8 || !l.Busy() {
				t.Errorf("P16.1: Seq %d, Busy %t", l.Seq(), l.Busy())
			}
		}
	}
}

func TestSendBodies(t *testing.T) {
	x := open(t, 3, 1, 0)
	for k, size := range sizes() {
		if n, e := x.send(some(size, k)); e != api.OK || n.Seq != k+1 || len(n.Body) != size {
			t.Errorf("P16.1: Send of %d bytes: %s, %d", size, show(n), e)
		}
		x.got(x.told(nil))
	}
	if n, e := x.send(nil); e != api.OK || len(n.Body) != 0 {
		t.Errorf("P16.1: Send of nil: %s, %d", show(n), e)
	}
}

// TestSendNumbers begins the talk at numbers that go on into another byte.
func TestSendNumbers(t *testing.T) {
	for _, seq := range []int{0, 1, 254, 255, 256, 65535, 65536, 1<<24 - 1, 1<<31 - 2, 1<<31 - 1, 1 << 31, 1<<32 - 5} {
		x := open(t, 3, 0, seq)
		for k := range 3 {
			if n, e := x.send([]byte{1}); e != api.OK || n.Seq != seq+k+1 || x.l.Seq() != seq+k+1 {
				t.Errorf("P16.1: Send behind %d: %s, %d", seq+k, show(n), e)
			}
			x.got(x.told(nil))
		}
	}
}

func TestSendTwice(t *testing.T) {
	for _, seq := range []int{0, 1, 100, topmost - 2, topmost - 1} {
		for _, size := range sizes() {
			x := open(t, 3, 1, seq)
			x.send(some(size, 1))
			for _, other := range [][]byte{some(size, 1), some(size, 2), some(size+1, 3), nil} {
				if n, e := x.send(other); e != api.ErrState || !same(n, seal.Note{}) {
					t.Errorf("P16.1: Send twice, from %d on: %s, %d", seq, show(n), e)
				}
			}
			// What was refused is not what waits, nor what is sent next.
			if n, ok := x.l.Again(); !ok || string(n.Body) != string(some(size, 1)) {
				t.Errorf("P16.1: Again answers what was refused: %s, %t", show(n), ok)
			}
		}
	}
}

// TestLastNumber: the last number is sent, answered, and no other one is behind it;
// while it waits, that it waits is told ahead of that.
func TestLastNumber(t *testing.T) {
	for _, ahead := range []int{0, 1, 2} {
		x := open(t, 3, 1, topmost-ahead)
		x.ends(ahead)
		for _, size := range sizes() {
			if n, e := x.send(some(size, 1)); e != api.ErrRange || !same(n, seal.Note{}) || x.l.Busy() || x.l.Seq() != topmost {
				t.Errorf("P16.1: Send behind the last number: %s, %d", show(n), e)
			}
		}
		if b, e := x.got(x.told([]byte("no"))); e != api.ErrStale || len(b) != 0 {
			t.Errorf("P16.3: Got, where none waits: %q, %d", b, e)
		}
	}
	x := open(t, 3, 1, topmost-1)
	x.send([]byte("last"))
	if _, e := x.send(nil); e != api.ErrState {
		t.Errorf("P16.1: Send twice, at the last number: %d", e)
	}
	if b, e := x.got(x.told([]byte("yes"))); e != api.OK || string(b) != "yes" {
		t.Errorf("P16.1: Got of the last number: %q, %d", b, e)
	}
	if _, e := x.send(nil); e != api.ErrRange {
		t.Errorf("P16.1: Send behind the last number: %d", e)
	}
}

// TestSendFromNone begins where New was handed what is no number.
func TestSendFromNone(t *testing.T) {
	for _, seq := range []int{-1, -2, -topmost, -topmost - 1, topmost + 1, topmost + 2, math.MaxInt, math.MinInt} {
		x := open(t, 3, 1, seq)
		if n, e := x.send([]byte("hey")); e != api.OK || n.Seq != 1 {
			t.Errorf("P16.1: the first one of a line from %d on: %s, %d", seq, show(n), e)
		}
	}
}

func TestAgain(t *testing.T) {
	for _, size := range sizes() {
		x := open(t, 3, 1, 4)
		for turn := range 3 {
			if n, ok := x.l.Again(); ok || !same(n, seal.Note{}) {
				t.Errorf("P16.1: Again, where none waits: %s, %t", show(n), ok)
			}
			sent, _ := x.send(some(size, turn))
			for range 5 {
				if n, ok := x.l.Again(); !ok || !same(n, sent) {
					t.Errorf("P16.1: Again: %s, %t, not %s", show(n), ok, show(sent))
				}
			}
			x.got(x.told(some(size, turn+10)))
		}
		if n, ok := x.l.Again(); ok || !same(n, seal.Note{}) {
			t.Errorf("P16.1: Again, behind Got: %s, %t", show(n), ok)
		}
	}
}

// TestTwoLines: what goes on with one line is nothing to another one.
func TestTwoLines(t *testing.T) {
	a, b := open(t, 3, 0, 4), open(t, 3, 1, 4)
	a.send([]byte("a"))
	b.holds()
	b.send([]byte("b"))
	a.holds()
	a.got(b.told(nil))
	b.got(a.told(nil))
	a.got(a.told([]byte("c")))
	b.holds()
	a.send([]byte("d"))
	b.got(b.told([]byte("e")))
	a.holds()
}
