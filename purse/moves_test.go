package purse

import (
	"math"
	"math/rand"
	"slices"
	"testing"

	"counterfoil/api"
)

// starts are beginnings of all sizes, with little, with much, and with nothing.
func starts() [][][]int {
	return [][][]int{
		{{0}, {0}},
		{{1}, {0}},
		{{most}, {0}},
		{{0}, {most}},
		{{most - 1}, {0}},
		{{most / 2}, {most / 2}},
		{{most / 2}, {most/2 - 2}},
		{{3, 2}, {1, most - 4}},
		{{0, 2, most, 7}, {3, 0, 0, 1}},
		{{2, most - 9}, {1, 3}, {most - 4, 0}},
		grid(5, 3),
		grid(16, 1),
		grid(16, 4),
	}
}

// places are the numbers of parties and of assets that the calls are tried with,
// where there are some.
func places(some int) []int {
	l := []int{math.MinInt, -some, -1, 0, 1, some / 2, some - 1, some, some + 1, 16, 1 << 32, math.MaxInt}
	slices.Sort(l)
	return slices.Compact(l)
}

// sizes are the numbers to give, take or move: those on either side of each
// bound, and of what each one has, and of what more goes in.
func sizes(p plain) []int {
	l := amounts()
	for asset := range p[0] {
		for _, i := range []int{0, len(p) - 1} {
			n := p[i][asset]
			l = append(l, n-1, n, n+1)
		}
		left := most - int(p.total(asset).Int64())
		l = append(l, left-1, left, left+1)
	}
	slices.Sort(l)
	return slices.Compact(l)
}

// tries makes the call of a Purse of its own, and holds what it answers and
// leaves against plain's.
func tries(t *testing.T, start [][]int, was plain, c call) {
	t.Helper()
	p := made(t, start...)
	want, we := was.after(c)
	if e := c.do(p); e != we {
		t.Fatalf("P9.2: of %v: %s%v: %d, not %d", start, c.name(), c, e, we)
	}
	if !slices.EqualFunc(all(p), want, slices.Equal) {
		t.Fatalf("P9.2: of %v: %s%v: left %v, not %v", start, c.name(), c, all(p), want)
	}
	for asset := range want[0] {
		if want.total(asset).Cmp(sum(p.Total(asset))) != 0 {
			t.Fatalf("P9.2: of %v: %s%v: Total(%d): %d", start, c.name(), c, asset, p.Total(asset))
		}
	}
}

// TestEachCall makes every call of every beginning, with each of the numbers in
// each place.
func TestEachCall(t *testing.T) {
	for _, start := range starts() {
		was, e := begun(start)
		if e != api.OK {
			t.Fatalf("%v is no beginning", start)
		}
		for _, party := range places(len(was)) {
			for _, asset := range places(len(was[0])) {
				for _, n := range sizes(was) {
					tries(t, start, was, call{give, party, 0, asset, n})
					tries(t, start, was, call{take, party, 0, asset, n})
				}
			}
		}
	}
}

// TestEachMove does so of Move, of some beginnings.
func TestEachMove(t *testing.T) {
	for _, start := range starts()[:10] {
		was, _ := begun(start)
		for _, from := range places(len(was)) {
			for _, to := range places(len(was)) {
				for _, asset := range places(len(was[0])) {
					for _, n := range sizes(was) {
						tries(t, start, was, call{move, from, to, asset, n})
					}
				}
			}
		}
	}
}

// TestEachPlace moves something between each two parties, of each asset, and
// gives it to each party, and takes it.
func TestEachPlace(t *testing.T) {
	start := grid(16, 4)
	was, _ := begun(start)
	for from := range 16 {
		for asset := range 4 {
			for to := range 16 {
				for _, n := range []int{0, 1, 7, was[from][asset], was[from][asset] + 1} {
					tries(t, start, was, call{move, from, to, asset, n})
				}
			}
			tries(t, start, was, call{give, from, 0, asset, 9})
			tries(t, start, was, call{take, from, 0, asset, 9})
		}
	}
}

// TestGiveToTheBound gives up to the greatest Total, and one more, whoever has
// what is there already.
func TestGiveToTheBound(t *testing.T) {
	for party := range 3 {
		for asset := range 2 {
			p := made(t, []int{5, 6}, []int{0, 1}, []int{8, 0})
			left := most - p.Total(asset)
			had, other := p.Has(party, asset), p.Total(1-asset)
			for i, c := range []struct {
				n, has int
				e      api.Errno
			}{
				{left + 1, had, api.ErrRange},
				{most, had, api.ErrRange},
				{left - 1, had + left - 1, api.OK},
				{2, had + left - 1, api.ErrRange},
				{most, had + left - 1, api.ErrRange},
				{1, had + left, api.OK},
				{1, had + left, api.ErrRange},
				{0, had + left, api.OK},
				{most, had + left, api.ErrRange},
				{math.MaxInt, had + left, api.ErrRange},
				{-1, had + left, api.ErrRange},
			} {
				if e := p.Give(party, asset, c.n); e != c.e || p.Has(party, asset) != c.has {
					t.Errorf("P9.2: step %d: Give(%d, %d, %d): %d, has %d; want %d, %d", i, party, asset, c.n, e, p.Has(party, asset), c.e, c.has)
				}
			}
			// Nobody else has room, until somebody has less.
			next := (party + 1) % 3
			if e := p.Give(next, asset, 1); e != api.ErrRange {
				t.Errorf("P9.2: Give(%d, %d, 1) of one more: %d", next, asset, e)
			}
			if e := p.Take(party, asset, 4); e != api.OK {
				t.Errorf("P9.2: Take(%d, %d, 4): %d", party, asset, e)
			}
			if e, f := p.Give(next, asset, 4), p.Give(next, asset, 1); e != api.OK || f != api.ErrRange || p.Total(asset) != most {
				t.Errorf("P9.2: Give(%d, %d, 4), and 1: %d, %d: Total %d", next, asset, e, f, p.Total(asset))
			}
			if p.Total(1-asset) != other || p.Give(party, 1-asset, 1) != api.OK {
				t.Errorf("P9.2: the other asset of %d has no room, or was changed", asset)
			}
		}
	}
}

// TestAllThereIs takes and moves all that there is, and one more.
func TestAllThereIs(t *testing.T) {
	for _, n := range []int{0, 1, 2, 77, most - 1, most} {
		p := made(t, []int{3, n}, []int{4, 0})
		for i, c := range []struct {
			e, want        api.Errno
			wantLeft, left int
		}{
			{p.Take(0, 1, n+1), errOf(n+1, n), n, p.Has(0, 1)},
			{p.Move(0, 1, 1, n+1), errOf(n+1, n), n, p.Has(0, 1)},
			{p.Move(0, 1, 1, n), api.OK, 0, p.Has(0, 1)},
			{p.Move(0, 1, 1, 1), api.ErrFunds, n, p.Has(1, 1)},
			{p.Move(0, 1, 1, 0), api.OK, n, p.Has(1, 1)},
			{p.Take(0, 1, 1), api.ErrFunds, 0, p.Has(0, 1)},
			{p.Take(0, 1, 0), api.OK, 0, p.Has(0, 1)},
			{p.Move(1, 0, 1, n+1), errOf(n+1, n), n, p.Has(1, 1)},
			{p.Take(1, 1, n), api.OK, 0, p.Has(1, 1)},
			{p.Take(1, 1, 1), api.ErrFunds, 0, p.Total(1)},
			{p.Take(0, 0, 3), api.OK, 0, p.Has(0, 0)},
			{p.Take(1, 0, 4), api.OK, 0, p.Total(0)},
		} {
			if c.e != c.want || c.left != c.wantLeft {
				t.Errorf("P9.2: of %d: step %d: %d, %d left; want %d, %d", n, i, c.e, c.left, c.want, c.wantLeft)
			}
		}
	}
}

// errOf is what a Take of n must answer where there are less.
func errOf(n, less int) api.Errno {
	if n > most {
		return api.ErrRange
	}
	if n > less {
		return api.ErrFunds
	}
	return api.OK
}

// TestTwoFaults: where two errors hold, it is the one that is named first.
func TestTwoFaults(t *testing.T) {
	for i, c := range []struct {
		c    call
		want api.Errno
	}{
		// Another one than there is, or no amount, with both parties the same.
		{call{move, 0, 0, 0, -1}, api.ErrRange},
		{call{move, 0, 0, 0, most + 1}, api.ErrRange},
		{call{move, 0, 0, 0, math.MinInt}, api.ErrRange},
		{call{move, 0, 0, 2, 1}, api.ErrRange},
		{call{move, 0, 0, -1, 1}, api.ErrRange},
		{call{move, 2, 2, 0, 1}, api.ErrRange},
		{call{move, -1, -1, 0, 1}, api.ErrRange},
		{call{move, math.MaxInt, math.MaxInt, 0, 1}, api.ErrRange},
		{call{move, 2, 2, 2, -1}, api.ErrRange},
		// Both parties the same, with less than that, all of it, and nothing.
		{call{move, 0, 0, 0, 11}, api.ErrParty},
		{call{move, 0, 0, 0, most}, api.ErrParty},
		{call{move, 1, 1, 0, 1}, api.ErrParty},
		{call{move, 0, 0, 0, 10}, api.ErrParty},
		{call{move, 0, 0, 0, 0}, api.ErrParty},
		{call{move, 1, 1, 1, 0}, api.ErrParty},
		// Another one than there is, with less than that.
		{call{move, 0, 2, 0, 11}, api.ErrRange},
		{call{move, 0, -1, 0, 11}, api.ErrRange},
		{call{move, 2, 0, 0, 11}, api.ErrRange},
		{call{move, -1, 0, 0, 0}, api.ErrRange},
		{call{move, 0, 1, 2, 11}, api.ErrRange},
		{call{move, 0, 1, 2, 0}, api.ErrRange},
		{call{move, 0, 1, 0, most + 1}, api.ErrRange},
		{call{move, 0, 1, 0, math.MaxInt}, api.ErrRange},
		{call{move, 1, 0, 0, most + 1}, api.ErrRange},
		{call{move, 1, 0, 0, most}, api.ErrFunds},
		{call{take, 2, 0, 0, 1}, api.ErrRange},
		{call{take, 2, 0, 0, 0}, api.ErrRange},
		{call{take, 0, 0, 2, 1}, api.ErrRange},
		{call{take, 0, 0, -1, 0}, api.ErrRange},
		{call{take, 0, 0, 0, most + 1}, api.ErrRange},
		{call{take, 1, 0, 0, math.MaxInt}, api.ErrRange},
		{call{take, 0, 0, 0, most}, api.ErrFunds},
		{call{take, 0, 0, 0, -1}, api.ErrRange},
		{call{give, 2, 0, 0, 0}, api.ErrRange},
		{call{give, 0, 0, 2, 0}, api.ErrRange},
		{call{give, 0, 0, 0, -10}, api.ErrRange},
		{call{give, 0, 0, 0, math.MinInt}, api.ErrRange},
	} {
		start := [][]int{{10, 20}, {0, 40}}
		was, _ := begun(start)
		p := made(t, start...)
		if e := c.c.do(p); e != c.want {
			t.Errorf("P9.2: case %d: %s%v: %d, not %d", i, c.c.name(), c.c, e, c.want)
		}
		holds(t, p, was, "P9.2: two faults")
	}
}

// anyCall is some call, most of them near the bounds of p.
func anyCall(r *rand.Rand, p plain) call {
	c := call{r.Intn(3), r.Intn(len(p)+2) - 1, r.Intn(len(p)+2) - 1, r.Intn(len(p[0])+2) - 1, r.Intn(12) - 1}
	switch {
	case r.Intn(3) == 0 && p.asset(c.asset):
		c.n = most - int(p.total(c.asset).Int64()) + r.Intn(3) - 1
	case r.Intn(3) == 0 && p.asset(c.asset) && p.party(c.party):
		c.n = p[c.party][c.asset] + r.Intn(3) - 1
	case r.Intn(4) == 0:
		c.n = amounts()[r.Intn(len(amounts()))]
	}
	return c
}

// TestManyCalls makes many calls, one behind the other, some of them of a Copy
// that goes on in its place: what was copied is looked at later.
func TestManyCalls(t *testing.T) {
	r := rand.New(rand.NewSource(9))
	for _, start := range starts() {
		want, _ := begun(start)
		p := made(t, start...)
		left, leftWant := p.Copy(), want
		for range 1500 {
			c := anyCall(r, want)
			next, we := want.after(c)
			if e := c.do(p); e != we {
				t.Fatalf("P9.2: of %v: %s%v: %d, not %d", want, c.name(), c, e, we)
			}
			want = next
			if !slices.EqualFunc(all(p), want, slices.Equal) {
				t.Fatalf("P9.2: %s%v: %v, not %v", c.name(), c, all(p), want)
			}
			if r.Intn(50) == 0 {
				holds(t, p, want, "P9.2: many calls")
				holds(t, left, leftWant, "P9.2: Copy: the one that was left")
				left, leftWant = p, want
				p = p.Copy()
			}
		}
	}
}

// TestMoveChangesNoTotal moves here and there, and looks at the Totals alone.
func TestMoveChangesNoTotal(t *testing.T) {
	r := rand.New(rand.NewSource(4))
	for _, start := range starts() {
		p := made(t, start...)
		var totals []int
		for asset := range p.Assets() {
			totals = append(totals, p.Total(asset))
		}
		done := 0
		for range 3000 {
			from, to, asset := r.Intn(p.Parties()+2)-1, r.Intn(p.Parties()+2)-1, r.Intn(p.Assets()+2)-1
			n := r.Intn(4) - 1
			if r.Intn(2) == 0 {
				n = p.Has(from, asset) - r.Intn(2)
			}
			if p.Move(from, to, asset, n) == api.OK {
				done++
			}
			for asset, total := range totals {
				if p.Total(asset) != total || plain(all(p)).total(asset).Cmp(sum(total)) != 0 {
					t.Fatalf("P9.4: of %v: Total(%d): %d, not %d", start, asset, p.Total(asset), total)
				}
			}
		}
		if done == 0 {
			t.Errorf("P9.4: of %v: none was done", start)
		}
	}
}
