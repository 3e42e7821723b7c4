package ledger

import (
	"math"
	"slices"
	"testing"

	"counterfoil/api"
	"counterfoil/purse"
)

// rows is a beginning of so many parties, each with so many assets, all of n.
func rows(parties, assets, n int) [][]int {
	var l [][]int
	for range parties {
		l = append(l, slices.Repeat([]int{n}, assets))
	}
	return l
}

// starts are beginnings, those that purse takes ahead.
func starts() (good, bad [][][]int) {
	good = [][][]int{
		rows(2, 1, 0), rows(2, 1, 1), rows(2, 4, 7), rows(3, 2, 5), rows(15, 3, 1), rows(16, 4, 9), rows(16, 1, most/16),
		{{most}, {0}}, {{0, most}, {0, 0}}, {{most - 1, 1}, {1, 2}}, {{1, most / 2, 0, 0}, {2, most / 2, 0, 0}}, conf(1).Start,
	}
	bad = [][][]int{
		nil, {}, {{}}, {{1}}, {{}, {}}, rows(1, 4, 1), rows(17, 1, 0), rows(17, 4, 1), rows(100, 2, 1), rows(2, 5, 0), rows(16, 5, 1), rows(3, 0, 0),
		{{1}, {1, 2}}, {{1, 2}, {1}}, {{1}, nil}, {nil, {1}}, {{1}, {1}, {1, 1}}, {{1, 1}, {1, 1}, {1}},
		{{-1}, {1}}, {{1}, {-1}}, {{1, 0}, {1, -1}}, {{most + 1}, {0}}, {{0}, {math.MaxInt}}, {{math.MinInt}, {0}},
		{{most}, {1}}, {{1}, {most}}, {{0, most}, {0, most}}, {{most, 0}, {-1, 0}}, rows(16, 1, most), rows(16, 2, most/16+1),
	}
	return good, bad
}

// isConf tells what must come of a Check, of Check, New and Load.
func isConf(t *testing.T, c Conf, want api.Errno) {
	t.Helper()
	if e := Check(c); e != want {
		t.Errorf("P12.1: Check(%v): %d, not %d", c, e, want)
	}
	l, e := New(table, c)
	if e != want || (l != nil) != (want == api.OK) {
		t.Errorf("P12.1: New(%v): %v, %d, not %d", c, l, e, want)
	}
	for _, b := range [][]byte{nil, {1}, make([]byte, 9), make([]byte, 10), make([]byte, 11)} {
		form := want
		if want == api.OK && len(b) != 10 {
			form = api.ErrForm
		}
		if l, e := Load(table, c, b); e != form || (l != nil) != (form == api.OK) {
			t.Errorf("P12.4: Load(%v, %v): %v, %d, not %d", c, b, l, e, form)
		}
	}
}

// TestConf: each beginning with each Events.
func TestConf(t *testing.T) {
	good, bad := starts()
	for _, events := range []int{1, 2, 63, 64, 65, 255, 256, 399, 400} {
		for _, start := range good {
			isConf(t, Conf{start, events}, api.OK)
		}
		for _, start := range bad {
			isConf(t, Conf{start, events}, api.ErrRange)
		}
	}
	for _, events := range []int{math.MinInt, -1 << 32, -400, -2, -1, 0, 401, 402, 65535, 65536, 1 << 32, 1<<32 + 1, math.MaxInt} {
		for _, start := range append(good, bad...) {
			isConf(t, Conf{start, events}, api.ErrRange)
		}
	}
}

// TestAsPurse: Check of a beginning is what purse says of it.
func TestAsPurse(t *testing.T) {
	good, bad := starts()
	for _, start := range append(good, bad...) {
		_, want := purse.New(start)
		if e := Check(Conf{start, 9}); e != want {
			t.Errorf("P12.1: Check of %v: %d, purse: %d", start, e, want)
		}
	}
}

// TestBegins: a new one has what it began with, at the clock 0, without events.
func TestBegins(t *testing.T) {
	good, _ := starts()
	for _, start := range good {
		x := made(t, Conf{start, 400})
		if x.l.Clock() != 0 || len(x.l.Events()) != 0 {
			t.Errorf("P12.1: of %v: clock %d, %v", start, x.l.Clock(), x.l.Events())
		}
		for party, row := range start {
			for asset, n := range row {
				if got := x.l.Has(party, asset); got != n {
					t.Errorf("P12.1: Has(%d, %d) of %v: %d", party, asset, start, got)
				}
			}
		}
	}
}
