package escrow

import (
	"math"
	"testing"

	"counterfoil/api"
)

// starts are beginnings of all sizes, with little, with much, and with nothing.
func starts() [][][]int {
	wide := make([][]int, 16)
	for party := range wide {
		wide[party] = []int{party, 100 + party, 1000 * party, 7}
	}
	return [][][]int{
		{{5}, {0}},
		{{0}, {0}},
		{{most}, {0}},
		{{0}, {most}},
		{{most - 1}, {1}},
		{{100, 10}, {50, 0}, {0, 3}},
		{{0, 2, most}, {3, 0, 0}},
		wide,
	}
}

// hashes are texts of 32 bytes and of other lengths, of all kinds of bytes.
func hashes() []string {
	return []string{
		"", "x", text("\x00", 31), text("\x00", 32), text("\x00", 33), text("\xff", 31), text("\xff", 32), text("\xff", 33),
		hashed("s"), hashed("s")[:31], hashed("s") + "\x00", hashed("s") + hashed("s"), text("é", 16), text("é", 32), text("h", 32+256), text("h", 32+65536),
	}
}

// ticks are numbers on either side of each bound of ticks.
func ticks() []int {
	return []int{
		math.MinInt, -last - 1, -last, -last + 1, -2, -1, 0, 1, 2, 9, 10, 11, 1<<31 - 1, 1 << 32, last - 1, last, last + 1, last + 2,
		2 * last, math.MaxInt - 1, math.MaxInt,
	}
}

// amounts are numbers on either side of each bound of amounts, and of has.
func amounts(has int) []int {
	return []int{
		math.MinInt, math.MinInt + 1, -most - 1, -most, -2, -1, 0, 1, 2, has - 1, has, has + 1, 1 << 32, most/2 + 1,
		most - 1, most, most + 1, most + 2, math.MaxInt - 1, math.MaxInt,
	}
}

// TestLock locks here and there: the numbers are those of the row.
func TestLock(t *testing.T) {
	b, want := made(t, []int{100, 10}, []int{50, 0}, []int{0, 0})
	h, g := hashed("one"), hashed("two")
	for i, c := range []call{
		{kind: lock, from: 0, to: 1, asset: 0, amount: 30, text: h, deadline: 9, clock: 8},
		{kind: lock, from: 0, to: 2, asset: 1, amount: 10, text: g, deadline: last, clock: 0},
		{kind: lock, from: 1, to: 0, asset: 0, amount: 50, text: h, deadline: 1, clock: 0},
		{kind: lock, from: 0, to: 1, asset: 0, amount: 30, text: h, deadline: 9, clock: 8},
		{kind: lock, from: 0, to: 1, asset: 0, amount: 40, text: text("\x00", 32), deadline: last, clock: last - 1},
	} {
		if id, e := c.do(b); id != i || e != api.OK {
			t.Fatalf("P10.1: %v: %d, %d, not %d", c, id, e, i)
		}
		want, _, _ = want.after(c)
		holds(t, b, want, "P10.1: behind "+c.String())
	}
	if x, ok := b.Get(1); !ok || x != (Escrow{From: 0, To: 2, Asset: 1, Amount: 10, Deadline: last, State: Open, Hash: g}) {
		t.Errorf("P10.3: Get(1): %#v", x)
	}
	if b.Purse().Has(0, 0) != 0 || b.Purse().Has(0, 1) != 0 || b.Purse().Has(1, 0) != 0 || b.Purse().Has(1, 1) != 0 || b.Purse().Has(2, 1) != 0 {
		t.Error("P10.1: nothing is left of what was locked, and nobody got it")
	}
}

// TestStates: the constants are the numbers of the chapter.
func TestStates(t *testing.T) {
	if Open != 0 || Claimed != 1 || Refunded != 2 {
		t.Errorf("states: %d, %d, %d", Open, Claimed, Refunded)
	}
}

// TestLockPlaces locks some, from each number of a party, to each, of each number
// of an asset.
func TestLockPlaces(t *testing.T) {
	for _, start := range starts() {
		b, was := made(t, start...)
		for _, from := range nones(len(start)) {
			for _, to := range nones(len(start)) {
				for _, asset := range nones(len(start[0])) {
					for _, amount := range []int{0, 1, 7} {
						c := call{kind: lock, from: from, to: to, asset: asset, amount: amount, text: hashed("s"), deadline: 9, clock: 8}
						if left := tries(t, b, was, c); len(left.escrows) > 0 {
							b, was = made(t, start...)
						}
					}
				}
			}
		}
	}
}

// TestLockAmounts locks each amount, of each party and asset that there is.
func TestLockAmounts(t *testing.T) {
	for _, start := range starts() {
		for from := range start {
			for asset := range start[0] {
				for _, amount := range amounts(start[from][asset]) {
					b, was := made(t, start...)
					c := call{kind: lock, from: from, to: (from + 1) % len(start), asset: asset, amount: amount, text: hashed("s"), deadline: 9, clock: 8}
					tries(t, b, was, c)
				}
			}
		}
	}
}

// TestLockTimes locks by each deadline at each clock, and with each hash.
func TestLockTimes(t *testing.T) {
	for _, deadline := range ticks() {
		for _, clock := range append(ticks(), deadline-1, deadline, deadline+1) {
			for _, hash := range hashes() {
				b, was := made(t, []int{5}, []int{6})
				tries(t, b, was, call{kind: lock, from: 1, to: 0, amount: 6, text: hash, deadline: deadline, clock: clock})
			}
		}
	}
}

// TestLockFaults makes Locks with every choice of faults: it is the first one
// that is told.
func TestLockFaults(t *testing.T) {
	b, was := made(t, []int{100, most, 0}, []int{50, 0, 0}, []int{0, 0, 1})
	done := 0
	for _, from := range []int{-1, 0, 1, 2, 3} {
		for _, to := range []int{-1, 0, 1, 2, 3} {
			for _, asset := range []int{-1, 0, 1, 2, 3} {
				for _, amount := range []int{-1, 0, 1, 50, 51, 100, 101, most, most + 1} {
					for _, hash := range []string{"", text("h", 31), text("h", 32), text("h", 33)} {
						for _, times := range [][2]int{{-1, -1}, {0, -1}, {-1, 0}, {0, 0}, {9, 8}, {9, 9}, {9, 10}, {last + 1, 9}, {9, last + 1}, {last + 2, last + 1}, {last, last}, {last, last - 1}} {
							c := call{kind: lock, from: from, to: to, asset: asset, amount: amount, text: hash, deadline: times[0], clock: times[1]}
							if left := tries(t, b, was, c); len(left.escrows) > 0 {
								done++
								b, was = made(t, []int{100, most, 0}, []int{50, 0, 0}, []int{0, 0, 1})
							}
						}
					}
				}
			}
		}
	}
	if done == 0 {
		t.Error("P10.1: none was done")
	}
}

// TestLockFirstFault names the errors one by one: each row mends the fault that
// is told by the row ahead, and has all those behind it.
func TestLockFirstFault(t *testing.T) {
	b, want := made(t, []int{100, 10}, []int{50, 0})
	h := hashed("s")
	for i, c := range []struct {
		from, to, asset, amount int
		hash                    string
		deadline, clock         int
		e                       api.Errno
	}{
		{2, 2, 2, 0, "", -1, -1, api.ErrRange},
		{1, 2, 2, 0, "", -1, -1, api.ErrRange},
		{1, 1, 2, 0, "", -1, -1, api.ErrRange},
		{1, 1, 0, 0, "", -1, -1, api.ErrRange},
		{1, 1, 0, 51, "", -1, -1, api.ErrRange},
		{1, 1, 0, 51, "", 0, -1, api.ErrRange},
		{1, 1, 0, 51, "", -1, 0, api.ErrRange},
		{1, 1, 0, 51, "", 0, 0, api.ErrForm},
		{1, 1, 0, 51, h + "s", 0, 0, api.ErrForm},
		{1, 1, 0, 51, h, 0, 0, api.ErrParty},
		{1, 0, 0, 51, h, 0, 0, api.ErrTime},
		{1, 0, 0, 51, h, 0, 1, api.ErrTime},
		{1, 0, 0, 51, h, 1, 0, api.ErrFunds},
		{1, 0, 0, 50, h, 1, 0, api.OK},
		{1, 0, 0, 1, h, 1, 0, api.ErrFunds},
		{1, 0, 1, 1, h, 1, 0, api.ErrFunds},
		{0, 1, 1, 11, h, 1, 0, api.ErrFunds},
		{1, 1, 1, 1, h, 1, 0, api.ErrParty},
	} {
		id, e := b.Lock(c.from, c.to, c.asset, c.amount, c.hash, c.deadline, c.clock)
		if id != 0 || e != c.e {
			t.Errorf("P10.1: row %d: %d, %d, not 0, %d", i, id, e, c.e)
		}
		if c.e == api.OK {
			want.free[1][0] = 0
			want.escrows = []Escrow{{From: 1, To: 0, Asset: 0, Amount: 50, Deadline: 1, Hash: h}}
		}
		holds(t, b, want, "P10.1: the first fault")
	}
}

// TestLockAll locks all that there is by parts, and one more.
func TestLockAll(t *testing.T) {
	for _, n := range []int{2, 3, 100, most - 1, most} {
		b, want := made(t, []int{4, n}, []int{0, 0})
		part := call{kind: lock, from: 0, to: 1, asset: 1, text: hashed("s"), deadline: 9, clock: 8}
		for _, amount := range []int{n + 1, n - 1, 2, 1, 1} {
			part.amount = amount
			want = tries(t, b, want, part)
		}
		if b.Len() != 2 || b.Purse().Has(0, 1) != 0 || b.Total(1) != n {
			t.Errorf("P10.1: of %d: %s", n, shown(b))
		}
		holds(t, b, want, "P10.1: all that there is")
	}
}

// TestManyOfOneHash locks many with one hash, of all parties: each one has its
// own number, and each is closed alone.
func TestManyOfOneHash(t *testing.T) {
	b, want := made(t, []int{400}, []int{400}, []int{400})
	s := text("s", 32)
	for id := range 900 {
		want = tries(t, b, want, call{kind: lock, from: id % 3, to: (id + 1 + id%2) % 3, amount: 1, text: hashed(s), deadline: 10 + id%5, clock: id % 10})
	}
	holds(t, b, want, "P10.1: many of one hash")
	for id := 0; id < 900; id += 7 {
		x := want.escrows[id]
		want = tries(t, b, want, call{kind: claim, from: x.To, id: id, text: s, clock: 9})
		want = tries(t, b, want, call{kind: refund, from: x.From, id: id, clock: 20})
		other := (id + 450) % 900
		want = tries(t, b, want, call{kind: refund, from: want.escrows[other].From, id: other, clock: 20})
	}
	holds(t, b, want, "P10.2: many of one hash")
	var states [3]int
	for id := range 900 {
		x, _ := b.Get(id)
		states[x.State]++
	}
	if states[Open] != b.Open() || states[Claimed] < 100 || states[Refunded] < 100 {
		t.Errorf("P10.2: %v of each state, %d Open", states, b.Open())
	}
}

// TestVeryMany locks more than two bytes can number.
func TestVeryMany(t *testing.T) {
	const many = 70000
	b, _ := made(t, []int{many}, []int{0})
	s := text("s", 32)
	for i := range many {
		if id, e := b.Lock(0, 1, 0, 1, hashed(s), 10+i, i); id != i || e != api.OK {
			t.Fatalf("P10.1: Lock: %d, %d, not %d", id, e, i)
		}
	}
	if b.Len() != many || b.Open() != many || b.Total(0) != many || b.Purse().Total(0) != 0 {
		t.Errorf("P10.3: %d, %d Open, Total %d", b.Len(), b.Open(), b.Total(0))
	}
	for _, id := range []int{0, 255, 256, 65535, 65536, many - 1} {
		if e := b.Claim(1, id, s, 9+id); e != api.OK {
			t.Errorf("P10.2: Claim of %d: %d", id, e)
		}
		x, ok := b.Get(id)
		if !ok || x != (Escrow{From: 0, To: 1, Amount: 1, Deadline: 10 + id, State: Claimed, Hash: hashed(s), Secret: s}) {
			t.Errorf("P10.3: Get(%d): %#v", id, x)
		}
	}
	if x, ok := b.Get(many); ok || x != (Escrow{}) || b.Open() != many-6 || b.Purse().Has(1, 0) != 6 || b.Total(0) != many {
		t.Errorf("P10.3: %d, %d Open, Total %d", b.Len(), b.Open(), b.Total(0))
	}
}
