package meter

import (
	"math"
	"math/big"
	"math/rand"
	"slices"
	"testing"
)

// nones are the counters that there are none of.
func nones() []int {
	return []int{math.MinInt, math.MinInt + 1, -1 << 32, -256, -8, -7, -2, -1, 8, 9, 15, 16, 64, 256, 1 << 32, 1<<32 + 1, 1 << 62, math.MaxInt - 1, math.MaxInt}
}

// numbers are the edges of what may be handed in as n, and some between.
func numbers() []int {
	return []int{math.MinInt, math.MinInt + 1, -1 << 62, -1 << 32, -1<<31 - 1, -1 << 31, -256, -3, -2, -1, 0, 1, 2, 3, 255, 1<<31 - 1, 1 << 31, 1<<32 + 1, 1 << 62, math.MaxInt - 1, math.MaxInt}
}

// around is a + b as int64 runs round, reckoned without bounds first.
func around(a, b int) int {
	sum := new(big.Int).Add(big.NewInt(int64(a)), big.NewInt(int64(b)))
	whole := new(big.Int).Lsh(big.NewInt(1), 64)
	sum.Mod(sum, whole)
	if sum.BitLen() == 64 {
		sum.Sub(sum, whole)
	}
	return int(sum.Int64())
}

// greater is the greater one of two.
func greater(a, b int) int {
	if a < b {
		return b
	}
	return a
}

// filled answers a Meter whose counters differ, and what they are.
func filled() (*Meter, []int) {
	want := []int{101, -202, 303, -404, 505, -606, 707, -808}
	m := New()
	for k, n := range want {
		m.Swap(k, n)
	}
	return m, want
}

// holds asks for all counters, twice and by both ways: asking changes nothing.
func holds(t *testing.T, m *Meter, want []int, what string, at ...int) {
	t.Helper()
	for range 2 {
		if got := m.All(); !slices.Equal(got, want) {
			t.Fatalf("P5.1: %s %v: All: %v, not %v", what, at, got, want)
		}
		for k, n := range want {
			if got := m.Get(k); got != n {
				t.Fatalf("P5.1: %s %v: Get(%d): %d, not %d", what, at, k, got, n)
			}
		}
	}
}

func TestCounters(t *testing.T) {
	got := []int{Sent, Got, Bad, Stale, Served, Refused, Crashes, Writes, Kinds}
	if !slices.Equal(got, []int{0, 1, 2, 3, 4, 5, 6, 7, 8}) {
		t.Errorf("P5.1: the counters are %v", got)
	}
}

func TestNew(t *testing.T) {
	holds(t, New(), make([]int, 8), "new")
}

// TestNoCounter hands every call a counter that there is none of: nothing is
// told, and nothing is changed.
func TestNoCounter(t *testing.T) {
	for _, k := range nones() {
		empty := New()
		m, want := filled()
		for _, n := range numbers() {
			for _, each := range []*Meter{empty, m} {
				if each.Add(k, n) {
					t.Errorf("P5.1: Add(%d, %d)", k, n)
				}
				if got := each.Get(k); got != 0 {
					t.Errorf("P5.1: Get(%d): %d", k, got)
				}
				if got := each.Swap(k, n); got != 0 {
					t.Errorf("P5.1: Swap(%d, %d): %d", k, n, got)
				}
				if got := each.Most(k, n); got != 0 {
					t.Errorf("P5.1: Most(%d, %d): %d", k, n, got)
				}
			}
			holds(t, empty, make([]int, 8), "no counter of a new one", k, n)
			holds(t, m, want, "no counter", k, n)
		}
	}
}

// TestAdd adds each number to each number, in each counter.
func TestAdd(t *testing.T) {
	for k := range 8 {
		m, want := filled()
		for _, a := range numbers() {
			for _, b := range numbers() {
				m.Swap(k, a)
				if !m.Add(k, b) {
					t.Errorf("P5.1: Add(%d, %d) is false", k, b)
				}
				want[k] = around(a, b)
				holds(t, m, want, "Add", k, a, b)
			}
		}
	}
}

// TestAddToNew adds where nothing was swapped ahead.
func TestAddToNew(t *testing.T) {
	for k := range 8 {
		for _, n := range numbers() {
			m, want := New(), make([]int, 8)
			for _, part := range []int{n, 0, 1, n, -1} {
				if !m.Add(k, part) {
					t.Errorf("P5.1: Add(%d, %d) is false", k, part)
				}
				want[k] = around(want[k], part)
				holds(t, m, want, "Add", k, n, part)
			}
		}
	}
}

// TestSumsRunRound holds some sums as they are read off the chapter.
func TestSumsRunRound(t *testing.T) {
	for _, c := range []struct{ was, n, is int }{
		{math.MaxInt, 1, math.MinInt},
		{math.MinInt, -1, math.MaxInt},
		{math.MaxInt, math.MaxInt, -2},
		{math.MinInt, math.MinInt, 0},
		{math.MaxInt, math.MinInt, -1},
		{1 << 62, 1 << 62, math.MinInt},
	} {
		m := New()
		m.Add(3, c.was)
		m.Add(3, c.n)
		if got := m.Get(3); got != c.is {
			t.Errorf("P5.1: %d and %d more: %d, not %d", c.was, c.n, got, c.is)
		}
	}
}

// TestSwap swaps each number for each number, there and back.
func TestSwap(t *testing.T) {
	for k := range 8 {
		m, want := filled()
		if got := New().Swap(k, 5); got != 0 {
			t.Errorf("P5.1: Swap(%d, 5) of a new one: %d", k, got)
		}
		for _, a := range numbers() {
			for _, b := range numbers() {
				m.Swap(k, a)
				if got := m.Swap(k, b); got != a {
					t.Errorf("P5.1: Swap(%d, %d): %d, not %d", k, b, got, a)
				}
				want[k] = b
				holds(t, m, want, "Swap", k, a, b)
				if got := m.Swap(k, a); got != b {
					t.Errorf("P5.1: Swap(%d, %d) back: %d, not %d", k, a, got, b)
				}
				want[k] = a
				holds(t, m, want, "Swap back", k, a, b)
			}
		}
	}
}

// TestMost holds each number against each number.
func TestMost(t *testing.T) {
	for k := range 8 {
		m, want := filled()
		for _, a := range numbers() {
			for _, b := range numbers() {
				m.Swap(k, a)
				want[k] = greater(a, b)
				for range 2 {
					if got := m.Most(k, b); got != want[k] {
						t.Errorf("P5.1: %d, then Most(%d, %d): %d", a, k, b, got)
					}
					holds(t, m, want, "Most", k, a, b)
				}
			}
		}
	}
}

// TestMostOfNew: a counter is 0 where nothing was put, so nothing below 0 is
// greater.
func TestMostOfNew(t *testing.T) {
	for k := range 8 {
		for _, n := range numbers() {
			m, want := New(), make([]int, 8)
			want[k] = greater(0, n)
			if got := m.Most(k, n); got != want[k] {
				t.Errorf("P5.1: Most(%d, %d) of a new one: %d", k, n, got)
			}
			holds(t, m, want, "Most of a new one", k, n)
		}
	}
}

// TestAllStays keeps what All told while the counters go on: it stays as it
// was told.
func TestAllStays(t *testing.T) {
	m, want := filled()
	var told, wants [][]int
	for i := range 100 {
		told = append(told, m.All())
		wants = append(wants, slices.Clone(want))
		k := i % 8
		switch i % 3 {
		case 0:
			m.Add(k, i+1)
			want[k] += i + 1
		case 1:
			m.Swap(k, -i)
			want[k] = -i
		case 2:
			m.Most(k, 1000+i)
			want[k] = greater(want[k], 1000+i)
		}
	}
	for i, l := range told {
		if !slices.Equal(l, wants[i]) {
			t.Errorf("P5.1: what All told behind %d steps is now %v, not %v", i, l, wants[i])
		}
	}
	holds(t, m, want, "all steps")
}

// spoil turns l, and its spare room.
func spoil(l []int) {
	l = l[:cap(l)]
	for i := range l {
		l[i] = ^l[i]
	}
}

// TestAllIsNew spoils each answer of All: no other one shows it, no counter,
// and no other Meter.
func TestAllIsNew(t *testing.T) {
	m, want := filled()
	empty := New()
	kept := [][]int{m.All(), m.All()}
	spoil(m.All())
	spoil(empty.All())
	more := append(m.All(), 1, 2, 3)
	spoil(more)
	for i, l := range kept {
		if !slices.Equal(l, want) {
			t.Errorf("P5.1: answer %d of All is not new: %v", i, l)
		}
	}
	spoil(kept[0])
	if !slices.Equal(kept[1], want) {
		t.Errorf("P5.1: two answers of All are one: %v", kept[1])
	}
	holds(t, m, want, "a spoiled answer")
	holds(t, empty, make([]int, 8), "a spoiled answer of a new one")
	holds(t, New(), make([]int, 8), "a new one behind a spoiled answer")
	m.Add(2, 1)
	want[2]++
	holds(t, m, want, "Add behind a spoiled answer")
}

// TestSideBySide turns one: the other one does not show it.
func TestSideBySide(t *testing.T) {
	one, want := filled()
	other := New()
	for k := range 8 {
		one.Add(k, 7)
		want[k] += 7
		holds(t, other, make([]int, 8), "beside Add", k)
		one.Swap(k, 11*k)
		want[k] = 11 * k
		one.Most(k, 13*k)
		want[k] = 13 * k
		holds(t, other, make([]int, 8), "beside Swap and Most", k)
	}
	other.Add(4, -1)
	holds(t, other, []int{0, 0, 0, 0, -1, 0, 0, 0}, "the other one")
	holds(t, one, want, "the one")
}

// TestAsPlain does what comes, and holds it against eight plain numbers.
func TestAsPlain(t *testing.T) {
	r := rand.New(rand.NewSource(5))
	m, want := New(), make([]int, 8)
	l := numbers()
	for i := range 20000 {
		k, n := r.Intn(8), r.Intn(41)-20
		if r.Intn(4) == 0 {
			n = l[r.Intn(len(l))]
		}
		switch r.Intn(3) {
		case 0:
			if !m.Add(k, n) {
				t.Fatalf("P5.1: step %d: Add(%d, %d) is false", i, k, n)
			}
			want[k] = around(want[k], n)
		case 1:
			if got := m.Swap(k, n); got != want[k] {
				t.Fatalf("P5.1: step %d: Swap(%d, %d): %d, not %d", i, k, n, got, want[k])
			}
			want[k] = n
		case 2:
			want[k] = greater(want[k], n)
			if got := m.Most(k, n); got != want[k] {
				t.Fatalf("P5.1: step %d: Most(%d, %d): %d, not %d", i, k, n, got, want[k])
			}
		}
		holds(t, m, want, "step", i)
	}
}

// TestSumSinceSwap: a counter is what it was swapped for, and the sum of what
// was added since.
func TestSumSinceSwap(t *testing.T) {
	r := rand.New(rand.NewSource(6))
	m, want := New(), make([]int, 8)
	for range 200 {
		k, sum := r.Intn(8), 0
		was := m.Get(k)
		for range r.Intn(20) {
			n := r.Intn(2001) - 1000
			m.Add(k, n)
			sum += n
		}
		if got := m.Swap(k, 0); got-was != sum {
			t.Fatalf("P5.3: %d was added to counter %d, told is %d", sum, k, got-was)
		}
		if got := m.Get(k); got != 0 {
			t.Fatalf("P5.3: swapped for 0, counter %d is %d", k, got)
		}
		want[k] = r.Intn(9)
		m.Add(k, want[k])
		holds(t, m, want, "since it was swapped", k)
	}
}
