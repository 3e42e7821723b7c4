package gate_test

import (
	"math"
	"slices"
	"testing"

	"counterfoil/gate"
)

// TestCounters: what the counters were, each Take makes one of them one more, and
// no other one.
func TestCounters(t *testing.T) {
	for _, begin := range [][]int{
		{0, 0, 0, 0, 0, 0, 0, 0}, {10, 11, 12, 13, 14, 15, 16, 17}, {-1, -1, -1, -1, -1, -1, -1, -1},
		{math.MaxInt, math.MaxInt, math.MaxInt, math.MaxInt, math.MaxInt, math.MaxInt, math.MaxInt, math.MaxInt},
		{math.MinInt, 1, math.MinInt, -2, 5, 1 << 62, 0, math.MinInt},
	} {
		for which := range 2 {
			x := scene(t, which)
			for k, n := range begin {
				x.m.Swap(k, n)
			}
			x.counts = slices.Clone(begin)
			x.renew()
			want := slices.Clone(begin)
			for k := range 3 {
				x.refused(2, bad, nil, 20)
				x.refused(14, bad, x.next(5).bytes(), 20)
				x.refused(5, stale, x.ask(1, 9, batch(0)).bytes(), 20)
				x.refused(5, stale, x.ask(2, 9, batch(0)).bytes(), 20)
				x.refused(5, stale, x.ask(0, 9, nil).bytes(), 20)
				x.refused(2, refused, x.next(1).turned().bytes(), 20)
				n := x.next(k, give(0, 1))
				for range 4 {
					x.answered(n, 20)
				}
				want[bad] += 2
				want[stale] += 3
				want[refused]++
				want[served] += 4
				if !slices.Equal(x.m.All(), want) {
					t.Fatalf("P15.2: from %v on: %v, not %v", begin, x.m.All(), want)
				}
			}
		}
	}
}

// turned is n, its Body no batch any more.
func (n note) turned() note {
	n.body = n.body[1:]
	return n
}

// TestCountersOfOthers: Keys, Stamp, Receipt, Split and New count nothing.
func TestCountersOfOthers(t *testing.T) {
	x := scene(t, 1)
	gate.Keys(table, x.seed, 1, 1)
	gate.Stamp(table, x.seed, 1)
	gate.Receipt(table, x.seed, 1, 1, 1, nil)
	gate.Split(nil)
	gate.New(table, 1, x.seed, x.v, x.m)
	x.holds()
}
