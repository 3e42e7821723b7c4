package meter

import (
	"slices"
	"sync"
	"sync/atomic"
	"testing"
)

const (
	places = Kinds // so that each can have a counter of its own
	rounds = 10000
)

// fromManyPlaces calls do in each place at once, and waits for all of them.
func fromManyPlaces(do func(place int)) {
	start := make(chan struct{})
	var all sync.WaitGroup
	for p := range places {
		all.Go(func() {
			<-start
			do(p)
		})
	}
	close(start)
	all.Wait()
}

// TestAddFromManyPlaces: no sum is lost, in the same counter and in one beside.
func TestAddFromManyPlaces(t *testing.T) {
	m := New()
	fromManyPlaces(func(p int) {
		for range rounds {
			m.Add(Served, 1)
			m.Add(Bad, p-3)
		}
	})
	// 4 is the sum of -3 to 4.
	if got := m.All(); !slices.Equal(got, []int{0, 0, 4 * rounds, 0, places * rounds, 0, 0, 0}) {
		t.Errorf("P5.2: Add: %v", got)
	}
}

// TestEachPlaceItsCounter: a step in one counter loses none in another one.
func TestEachPlaceItsCounter(t *testing.T) {
	m, good := New(), make([]bool, places)
	fromManyPlaces(func(p int) {
		is := 0
		good[p] = true
		for i := range rounds {
			m.Add(p, 2)
			m.Most(p, i)
			is = greater(is+2, i)
			if m.Get(p) != is || m.All()[p] != is {
				good[p] = false
			}
			is -= i % 5
			m.Swap(p, is)
		}
		if m.Get(p) != is {
			good[p] = false
		}
	})
	for p, g := range good {
		if !g {
			t.Errorf("P5.2: another place's steps show in counter %d: %v", p, m.All())
		}
	}
}

// TestSwapFromManyPlaces puts each number once: each is told once, or stands
// there in the end.
func TestSwapFromManyPlaces(t *testing.T) {
	m, told := New(), make([][]int, places)
	fromManyPlaces(func(p int) {
		for i := range rounds {
			told[p] = append(told[p], m.Swap(Got, 1+p*rounds+i))
		}
	})
	all := append(slices.Concat(told...), m.Get(Got))
	slices.Sort(all)
	if len(all) != places*rounds+1 {
		t.Fatalf("P5.2: %d numbers", len(all))
	}
	for i, n := range all {
		if n != i {
			t.Fatalf("P5.2: Swap: %d is told where %d is due", n, i)
		}
	}
}

// TestSwapWhileAdded takes away what others add: all of it is told once.
func TestSwapWhileAdded(t *testing.T) {
	m, sums := New(), make([]int, places)
	fromManyPlaces(func(p int) {
		for range rounds {
			if p%2 == 0 {
				m.Add(Writes, 3)
			} else {
				sums[p] += m.Swap(Writes, 0)
			}
		}
	})
	sum := m.Get(Writes)
	for _, n := range sums {
		sum += n
	}
	if sum != places/2*rounds*3 {
		t.Errorf("P5.3: %d was added, told is %d", places/2*rounds*3, sum)
	}
}

// TestMostFromManyPlaces hands in, again and again, a little more than what is
// there: it never falls, what Most tells is at least what was handed in, and
// the greatest one of all stands there in the end.
func TestMostFromManyPlaces(t *testing.T) {
	m, good, tops := New(), make([]bool, places), make([]int, places)
	fromManyPlaces(func(p int) {
		was := 0
		good[p] = true
		for i := range 3 * rounds {
			n := was + 1 + (i+p)%3
			tops[p] = greater(tops[p], n)
			is := m.Most(Stale, n)
			then := m.Get(Stale)
			if is < n || then < is {
				good[p] = false
			}
			was = then
		}
	})
	if slices.Contains(good, false) {
		t.Errorf("P5.2: Most falls: %v", good)
	}
	if got := m.All(); !slices.Equal(got, []int{0, 0, 0, slices.Max(tops), 0, 0, 0, 0}) {
		t.Errorf("P5.2: Most: %v, not %d", got, slices.Max(tops))
	}
}

// TestMostWhileAdded: a Most loses nothing that others add, where it has
// nothing to change, and where it has.
func TestMostWhileAdded(t *testing.T) {
	m := New()
	fromManyPlaces(func(p int) {
		for range rounds {
			if p%2 == 0 {
				m.Add(Refused, 1)
			} else {
				m.Most(Refused, 0)
				m.Most(Refused, -7)
			}
		}
	})
	if got := m.Get(Refused); got != places/2*rounds {
		t.Errorf("P5.2: %d was added while Most was asked, it is %d", places/2*rounds, got)
	}
	good := make([]bool, places)
	fromManyPlaces(func(p int) {
		good[p] = true
		for range rounds {
			if p%2 == 0 {
				m.Add(Refused, 1)
			} else if was := m.Get(Refused); m.Most(Refused, was+1) <= was {
				good[p] = false
			}
		}
	})
	if got := m.Get(Refused); slices.Contains(good, false) || got < places*rounds {
		t.Errorf("P5.2: %d was added while Most was asked, it is %d", places*rounds, got)
	}
}

// TestAllIsOneStep bumps counters one behind the other, rising and falling,
// while others ask for all: none sees a later one ahead of an earlier one, nor
// more than a step between the first and the last.
func TestAllIsOneStep(t *testing.T) {
	m, good := New(), make([]bool, places)
	var done atomic.Bool
	fromManyPlaces(func(p int) {
		good[p] = true
		if p == 0 {
			defer done.Store(true)
			for range 3 * rounds {
				m.Add(Sent, 1)
				m.Add(Writes, 1)
				m.Add(Crashes, 1)
				m.Add(Got, 1)
			}
			return
		}
		for !done.Load() {
			l := m.All()
			if l[Sent] < l[Writes] || l[Writes] < l[Crashes] || l[Crashes] < l[Got] || l[Got] < l[Sent]-1 {
				good[p] = false
			}
		}
	})
	if slices.Contains(good, false) {
		t.Errorf("P5.2: All tells what never was: %v", good)
	}
}
