package gate_test

import (
	"bytes"
	"slices"
	"testing"

	"counterfoil/api"
	"counterfoil/gate"
	"counterfoil/meter"
)

// roomy is b with other bytes behind its length: all of it is answered, too.
func roomy(b []byte) (in, all []byte) {
	all = append(bytes.Clone(b), some(100, 10)...)
	return all[:len(b)], all
}

// TestHandedToKeysStays looks at what is handed to Keys, Stamp, Receipt and Split,
// and at what lies behind it; and turns it behind the call.
func TestHandedToKeysStays(t *testing.T) {
	for _, size := range append(seedSizes(), 40, 50) {
		in, all := roomy(some(size, 11))
		was, key := bytes.Clone(all), bytes.Clone(in)
		more, rest := roomy(some(size, 12))
		wasMore, text := bytes.Clone(rest), bytes.Clone(more)
		one, two, three := gate.Keys(table, in, 3, 1), gate.Stamp(table, in, 1), gate.Receipt(table, in, 3, 1, 258, more)
		four, five, e := gate.Split(more)
		if !bytes.Equal(all, was) || !bytes.Equal(rest, wasMore) {
			t.Fatalf("P15.3: of %d bytes some were changed, or what lies behind them", size)
		}
		spoil(all)
		spoil(rest)
		if !bytes.Equal(one, keyOf(key, 3, 1)) || !bytes.Equal(two, stampOf(key, 1)) || !bytes.Equal(three, receiptOf(key, 3, 1, 258, text)) {
			t.Fatalf("P15.3: of %d bytes what lies behind them is read, or an answer hangs on them", size)
		}
		if size >= 32 && (e != api.OK || !bytes.Equal(slices.Concat(four, five), text)) {
			t.Fatalf("P15.3: Split of %d bytes hangs on them: %d, %x, %x", size, e, four, five)
		}
	}
}

// TestKeysAreNew turns what Keys, Stamp and Receipt answer, and its spare room.
func TestKeysAreNew(t *testing.T) {
	for _, size := range seedSizes() {
		seed, answer := some(size, 13), some(size, 14)
		for range 3 {
			one, two, three := gate.Keys(table, seed, 3, 1), gate.Stamp(table, seed, 1), gate.Receipt(table, seed, 3, 1, 258, answer)
			if !bytes.Equal(one, keyOf(seed, 3, 1)) || !bytes.Equal(two, stampOf(seed, 1)) || !bytes.Equal(three, receiptOf(seed, 3, 1, 258, answer)) {
				t.Fatalf("P15.3: of %d bytes an answer is not new", size)
			}
			spoil(one)
			if !bytes.Equal(two, stampOf(seed, 1)) || !bytes.Equal(three, receiptOf(seed, 3, 1, 258, answer)) {
				t.Fatalf("P15.3: of %d bytes two answers are one", size)
			}
			spoil(two)
			if !bytes.Equal(three, receiptOf(seed, 3, 1, 258, answer)) {
				t.Fatalf("P15.3: of %d bytes two answers are one", size)
			}
			spoil(three)
			if !bytes.Equal(seed, some(size, 13)) || !bytes.Equal(answer, some(size, 14)) {
				t.Fatalf("P15.3: of %d bytes an answer is what was handed in", size)
			}
		}
	}
	// One memory may be all that is handed in.
	b := some(40, 15)
	if r := gate.Receipt(table, b, 3, 1, 258, b); !bytes.Equal(r, receiptOf(some(40, 15), 3, 1, 258, some(40, 15))) || !bytes.Equal(b, some(40, 15)) {
		t.Errorf("P15.3: a stamp that is the answer: %x", r)
	}
}

// TestSplitIsNew turns the answer and the receipt of a body, and their spare room.
func TestSplitIsNew(t *testing.T) {
	for _, n := range []int{32, 33, 34, 60, 64, 65, 100, 1000} {
		body, all := roomy(some(n, 16))
		was := bytes.Clone(all)
		answer, receipt, _ := gate.Split(body)
		again, more, _ := gate.Split(body)
		spoil(append(answer, 1, 2, 3))
		spoil(answer)
		if !bytes.Equal(all, was) || !bytes.Equal(receipt, was[n-32:n]) || !bytes.Equal(again, was[:n-32]) {
			t.Errorf("P15.3: the answer of %d bytes is not new", n)
		}
		spoil(append(receipt, 1, 2, 3))
		spoil(receipt)
		if !bytes.Equal(all, was) || !bytes.Equal(again, was[:n-32]) || !bytes.Equal(more, was[n-32:n]) {
			t.Errorf("P15.3: the receipt of %d bytes is not new", n)
		}
	}
}

// TestSeedStays: a seed is neither changed nor kept, nor what lies behind it.
func TestSeedStays(t *testing.T) {
	for _, size := range seedSizes() {
		x := over(t, conf(12), 1, some(size, 17), sized(t, conf(12)), "the seed")
		in, all := roomy(some(size, 17))
		was := bytes.Clone(all)
		x.g = gate.New(table, 1, in, x.v, x.m)
		for range 2 {
			x.answered(x.next(1, give(0, 1)), 5)
			x.refused(2, bad, nil, 5)
			x.refused(14, bad, x.next(3).bytes(), 5)
			x.refused(2, refused, x.ask(1, x.w.Last(1)+1, nil).bytes(), 5)
		}
		if !bytes.Equal(all, was) {
			t.Fatalf("P15.3: a seed of %d bytes is changed", size)
		}
		spoil(all)
		x.answered(x.next(1, give(0, 1)), 5)
		x.answered(x.next(2, give(0, 1)), 5)
		x.holds()
	}
}

// TestNoteStays: a note is neither changed nor kept, nor what lies behind it,
// whatever comes of it.
func TestNoteStays(t *testing.T) {
	for _, state := range [][2]bool{{}, {true, false}, {false, true}} {
		x := standing(t, state[0], state[1])
		last, due := x.w.Last(1), x.w.Last(1)+1
		good := x.ask(1, due, batch(0, give(0, 1), lock(2, 1, "n", 90)))
		other := x.ask(1, due, good.body)
		other.key = nil
		told := x.ask(1, due, good.body)
		told.way = 1
		for _, n := range []note{other, told, x.ask(3, 1, nil), x.ask(1, 0, nil), x.ask(1, due, nil), x.ask(1, due+5, nil), x.ask(1, last, good.body), good, good} {
			in, all := roomy(n.bytes())
			was := bytes.Clone(all)
			x.take(in[:len(in)-1], 20)
			x.take(all[:len(in)+1], 20)
			x.take(in, 20)
			if !bytes.Equal(all, was) {
				t.Fatalf("P15.3: a note is changed: %x, not %x", all, was)
			}
			spoil(all)
			x.holds()
		}
		if state == [2]bool{} {
			// What was handled is what the note said when it was handed in.
			x.answered(good, 21)
			x.crash()
			x.open()
			x.answered(good, 21)
		}
	}
}

// TestToldIsNew turns what Take answers, and its spare room: no other answer shows
// it, nor what was handed in, nor what the vault answers again.
func TestToldIsNew(t *testing.T) {
	x := scene(t, 0)
	for k := range 30 {
		n := x.next(k%3, give(0, 1), lock(1, k%2, "x", 90))
		in := n.bytes()
		one, _ := x.take(in, 20)
		two, _ := x.take(in, 21)
		want := bytes.Clone(one)
		spoil(append(one, 1, 2, 3))
		spoil(one)
		if !bytes.Equal(two, want) || !bytes.Equal(in, n.bytes()) {
			t.Fatalf("P15.3: what Take answers is not new")
		}
		if three, _ := x.take(in, 22); !bytes.Equal(three, want) {
			t.Fatalf("P15.3: what Take answers is kept: %x, not %x", three, want)
		}
		spoil(in)
		if !bytes.Equal(two, want) {
			t.Fatalf("P15.3: what Take answers is what was handed in")
		}
		x.holds()
	}
}

// TestManyAnswers keeps many answers, and turns each second one: the others stay.
func TestManyAnswers(t *testing.T) {
	x := scene(t, 1)
	var kept, wants [][]byte
	for k := range 60 {
		b, e := x.take(x.next(k%3, give(0, 1)).bytes(), 20)
		answer, receipt, f := gate.Split(b)
		if e != api.OK || f != api.OK {
			t.Fatalf("P15.2: %d, %d", e, f)
		}
		kept = append(kept, b, answer, receipt, gate.Keys(table, b, k, 1), gate.Stamp(table, b, k), gate.Receipt(table, b, 1, 1, k, b))
	}
	for _, b := range kept {
		wants = append(wants, bytes.Clone(b))
	}
	for turn := range 2 {
		for i := turn; i < len(kept); i += 2 {
			if !bytes.Equal(kept[i], wants[i]) {
				t.Fatalf("P15.3: answer %d is another one now", i)
			}
		}
		for i := turn; i < len(kept); i += 2 {
			spoil(kept[i])
		}
	}
	x.holds()
}

// TestKept: t, v and m are kept themselves: what is done beside the gate is seen,
// and what the gate does.
func TestKept(t *testing.T) {
	x := scene(t, 0)
	if x.m.Swap(meter.Served, 0) != 3 {
		t.Errorf("P15.2: Served was another one")
	}
	x.counts[served] = 0
	x.answered(x.next(2, give(0, 1)), 20)
	if x.m.Get(meter.Served) != 1 || x.v.Last(2) != 1 {
		t.Errorf("P15.2: %d, %d", x.m.Get(meter.Served), x.v.Last(2))
	}
}
