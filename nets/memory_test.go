package nets_test

import (
	"math/rand"
	"slices"
	"testing"

	"counterfoil/api"
	"counterfoil/nets"
	"counterfoil/trade"
)

// spoil turns all of l, and its spare room.
func spoil(l []nets.Net) {
	l = l[:cap(l)]
	for i := range l {
		l[i] = net(-7, -7, -7, -7, -7)
	}
}

// lengths are rows of trades that come to more and more nets.
func lengths(t *testing.T) [][]trade.Trade {
	t.Helper()
	var all [][]trade.Trade
	for i, n := range []int{0, 1, 2, 3, 4, 8, 17, 40, 130} {
		r := rand.New(rand.NewSource(int64(i)))
		all = append(all, row(r, kind{12, 4, 9}, n))
	}
	return all
}

// told asks Of what there is no error of.
func told(t *testing.T, l []trade.Trade) []nets.Net {
	t.Helper()
	left, e := nets.Of(l)
	if e != api.OK {
		t.Fatalf("P19.1: Of(%s): %d", show(l), e)
	}
	return left
}

// TestAnswersAreNew writes into each answer and behind it: neither what was given nor
// another answer shows it.
func TestAnswersAreNew(t *testing.T) {
	for _, l := range lengths(t) {
		was := slices.Clone(l)
		a, b := told(t, l), told(t, l)
		want := slices.Clone(a)
		spoil(append(a, net(1, 2, 0, 0, 5), net(1, 2, 0, 0, 6)))
		spoil(a)
		if !slices.Equal(b, want) {
			t.Fatalf("P19.2: two answers are one: %s, not %s", show(b), show(want))
		}
		if !slices.Equal(l, was) {
			t.Fatalf("P19.2: an answer is what was given: %s, not %s", show(l), show(was))
		}
		if c := told(t, l); !slices.Equal(c, want) {
			t.Fatalf("P19.2: what is answered next is %s, not %s", show(c), show(want))
		}
		spoil(b)
		of(t, l)
		kept(t, l)
	}
}

// TestSpareRoom: what is written behind the length of one answer is not seen in that of
// another one.
func TestSpareRoom(t *testing.T) {
	for _, l := range lengths(t) {
		a, b := told(t, l), told(t, l)
		n := len(a)
		spoil(b[n:])
		for _, x := range a[n:cap(a)] {
			if x.From == -7 {
				t.Fatalf("P19.2: two answers of %d share their spare room", n)
			}
		}
	}
}

// TestAnswersStay: what was answered is still what it was when what was given is
// another one, and when other calls are made.
func TestAnswersStay(t *testing.T) {
	for _, l := range lengths(t) {
		a := told(t, l)
		want := slices.Clone(a)
		for i := range l {
			l[i].Buyer, l[i].Price = l[i].Buyer+100, l[i].Price+1
		}
		spoil(told(t, l))
		of(t, l)
		if !slices.Equal(a, want) {
			t.Fatalf("P19.2: an answer is %s, and was %s", show(a), show(want))
		}
	}
}

// TestHandedIn: no call changes what it is given, nor writes or reads what lies behind
// its length.
func TestHandedIn(t *testing.T) {
	for _, l := range lengths(t) {
		more := append(slices.Clone(l), deal(1, 2, 0, greatest, 0, greatest), deal(1, 2, 0, -1, 0, greatest), deal(3, 3, 1, 1, 1, 1))
		was := slices.Clone(more)
		short := more[:len(l)]
		left := told(t, short)
		if !slices.Equal(left, told(t, l)) {
			t.Fatalf("P0.4: Of reads behind %s", show(l))
		}
		room := append(slices.Clone(left), net(1, 2, 0, 0, 5), net(2, 1, 1, 0, 6))
		wide := slices.Clone(room)
		for party := range 4 {
			for k := range 8 {
				a, b := nets.Gross(short, party, k%2, k/2), nets.Sum(room[:len(left)], party, k%2, k/2)
				if a != b || a != gross(t, l, party, k%2, k/2) {
					t.Fatalf("P0.4: Gross %d, Sum %d of %s", a, b, show(l))
				}
			}
		}
		if !slices.Equal(more, was) || !slices.Equal(room, wide) {
			t.Fatalf("P19.2: what was given is %s, %s, not %s, %s", show(more), show(room), show(was), show(wide))
		}
	}
}

// TestBesideAnError: a call that was refused leaves nothing that a later one shows.
func TestBesideAnError(t *testing.T) {
	for _, l := range lengths(t) {
		want := told(t, l)
		for _, n := range []int{-1, greatest + 1} {
			refused(t, append(slices.Clone(l), deal(90, 91, 0, n, 0, 1))...)
			refused(t, append([]trade.Trade{deal(90, 91, 0, 1, 0, n)}, l...)...)
			if got := told(t, l); !slices.Equal(got, want) {
				t.Fatalf("P0.2: behind an error: %s, not %s", show(got), show(want))
			}
		}
	}
}
