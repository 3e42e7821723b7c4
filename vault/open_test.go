package vault

import (
	"bytes"
	"slices"
	"testing"

	"counterfoil/api"
	"counterfoil/disk"
	"counterfoil/journal"
	"counterfoil/ledger"
)

// rows are so many parties with so many assets, of each of which they have n.
func rows(parties, assets, n int) [][]int {
	var l [][]int
	for range parties {
		l = append(l, slices.Repeat([]int{n}, assets))
	}
	return l
}

// wrongs are beginnings that ledger.Check refuses.
func wrongs() []ledger.Conf {
	l := []ledger.Conf{{}, {Events: 10}}
	for _, events := range []int{-1, 0, 401, 1 << 62} {
		l = append(l, ledger.Conf{Start: rows(3, 2, 5), Events: events})
	}
	for _, start := range [][][]int{
		rows(0, 2, 5), rows(1, 2, 5), rows(17, 2, 5), rows(3, 0, 5), rows(3, 5, 5), rows(16, 1, 1<<59),
		{{1, 2}, {1}}, {{1, 2}, {1, 2, 3}}, {{1}, {-1}}, {{1 << 62}, {1}},
	} {
		l = append(l, ledger.Conf{Start: start, Events: 10})
	}
	return l
}

// TestNeed holds Need against numbers that were worked out by hand, and against the
// chapter's words.
func TestNeed(t *testing.T) {
	for _, x := range []struct {
		c    ledger.Conf
		want int
	}{
		{ledger.Conf{Start: rows(2, 1, 0), Events: 1}, 124},
		{ledger.Conf{Start: rows(2, 1, 1<<61), Events: 1}, 124},
		{ledger.Conf{Start: rows(16, 4, 1), Events: 400}, 1020},
		{ledger.Conf{Start: rows(16, 1, 1), Events: 400}, 1020},
		{conf(10), 150},
		{conf(400), 930},
	} {
		if got := Need(x.c); got != x.want {
			t.Errorf("P13.1: Need(%v): %d, not %d", x.c, got, x.want)
		}
	}
	for parties := 2; parties <= 16; parties++ {
		for events := 1; events <= 400; events++ {
			want := 2 * (sectors(14+63*events+220*parties) + 53)
			if got := Need(ledger.Conf{Start: rows(parties, 1+events%4, 3), Events: events}); got != want {
				t.Errorf("P13.1: Need of %d parties, %d events: %d, not %d", parties, events, got, want)
			}
		}
	}
	for _, c := range wrongs() {
		if got := Need(c); got != 0 {
			t.Errorf("P13.1: Need(%v): %d, not 0", c, got)
		}
	}
}

// isNone holds that there is no Vault, and that Open answers e.
func isNone(t *testing.T, e api.Errno, c ledger.Conf, d *disk.Disk, what ...any) {
	t.Helper()
	if v, f := Open(table, c, d); v != nil || f != e {
		t.Fatalf("P13.1: %v: Open: %t, %d, not %d", what, v != nil, f, e)
	}
}

// TestOpenErrors opens what is wrong in one or more ways: the first one is told.
func TestOpenErrors(t *testing.T) {
	bad := []byte("no picture")
	for _, n := range []int{1, 2, 149, 150, 151, 152, 1020, 8192} {
		for _, wrong := range []bool{false, true} {
			d := sized(t, n)
			if wrong {
				journal.Open(table, d).Compact(bad)
			}
			for _, c := range wrongs() {
				isNone(t, 1, c, d, n, wrong)
			}
			switch {
			case n < 150:
				isNone(t, 12, conf(10), d, n, wrong)
			case wrong:
				isNone(t, 2, conf(10), d, n, wrong)
			default:
				over(t, conf(10), d, "as many as needed")
			}
		}
	}
	for _, c := range []ledger.Conf{{Start: rows(2, 1, 4), Events: 1}, {Start: rows(16, 4, 1), Events: 400}, conf(77)} {
		n := Need(c)
		isNone(t, 12, c, sized(t, n-1), n)
		isNone(t, 12, c, sized(t, 1), n)
		over(t, c, sized(t, n), "as many as needed")
		over(t, c, sized(t, n+1), "one more than needed")
	}
}

// TestOpenEmpty opens an empty disk: the ledger is a new one.
func TestOpenEmpty(t *testing.T) {
	for _, c := range []ledger.Conf{{Start: rows(2, 1, 4), Events: 1}, {Start: rows(16, 4, 1), Events: 400}, conf(10)} {
		x := paired(t, c, "empty")
		l := x.v.Ledger()
		if l == nil || l.Clock() != 0 || len(l.Events()) > 0 || l.Total(0) == 0 || x.v.Down() || x.v.Served() != 0 {
			t.Errorf("P13.1: %v: not a new one", c)
		}
		for party := range c.Start {
			if x.v.Last(party) != 0 {
				t.Errorf("P13.1: Last(%d): %d", party, x.v.Last(party))
			}
		}
	}
}

// TestOpenWritesNothing opens disks of each kind, with something pending and a fuse
// that the first Write or Sync would burn.
func TestOpenWritesNothing(t *testing.T) {
	x := scene(t, 12)
	picture, record := x.p.fold(), laidRecord(2, 1, 30, batch(0, give(0, 1)))
	for i, d := range []*disk.Disk{
		sized(t, Need(x.c)), x.d, with(t, x.c, picture), with(t, x.c, nil, laidRecord(2, 1, 30, batch(0))), with(t, x.c, picture, record),
		with(t, x.c, []byte("none")), with(t, x.c, picture, []byte("none")), with(t, x.c, nil, []byte("none")),
	} {
		d.Write(d.Len()-1, bytes.Repeat([]byte{7}, 64))
		was := contents(d)
		d.Fuse(0)
		for range 2 {
			_, e := Open(table, x.c, d)
			if (e != api.OK) != (i > 4) {
				t.Errorf("P13.1: disk %d: %d", i, e)
			}
			if d.Down() || d.Pending() != 1 || !bytes.Equal(contents(d), was) {
				t.Errorf("P13.1: disk %d: Open writes", i)
			}
		}
		d.Crash(nil)
		if got := contents(d); !bytes.Equal(got[:len(got)-64], was[:len(was)-64]) || got[len(got)-1] != 0 {
			t.Errorf("P13.1: disk %d: Open lets something last", i)
		}
	}
}

// TestOpenDown opens a disk that is down: nothing is told, and what would be
// written is ErrDown. All that comes ahead of it is as ever.
func TestOpenDown(t *testing.T) {
	s := scene(t, 12)
	for _, d := range []*disk.Disk{s.d, sized(t, Need(s.c)), with(t, s.c, []byte("no picture"))} {
		d.Fuse(0)
		d.Sync()
		v, e := Open(table, s.c, d)
		if v == nil || e != api.OK || v.Down() || v.Last(0) != 0 || v.Served() != 0 || len(v.Ledger().Events()) > 0 {
			t.Fatalf("P13.1: opened down: %d", e)
		}
		good := batch(0)
		for _, x := range []struct {
			party, seq int
			batch      []byte
			want       api.Errno
		}{{-1, 1, good, 14}, {3, 1, good, 14}, {0, 0, good, 5}, {0, 4, good, 5}, {0, 1, nil, 2}} {
			if b, e := v.Handle(x.party, x.seq, 5, x.batch); len(b) > 0 || e != x.want || v.Down() {
				t.Errorf("P13.2: opened down: Handle(%d, %d): %d, not %d", x.party, x.seq, e, x.want)
			}
		}
		if b, e := v.Handle(0, 1, 5, good); len(b) > 0 || e != 13 || !v.Down() || v.Last(0) != 0 || v.Served() != 0 || v.Ledger().Clock() != 0 {
			t.Errorf("P13.2: opened down: %d, and Down %t", e, v.Down())
		}
		d.Crash(nil)
		if _, e := v.Handle(-1, 0, 0, nil); e != 13 || !v.Down() {
			t.Errorf("P13.2: opened down, and up again: %d", e)
		}
		isNone(t, 12, s.c, sized(t, Need(s.c)-1))
	}
	s.open()
}

// TestOpenAll opens what other Vaults left: records, a picture, records behind it.
func TestOpenAll(t *testing.T) {
	x := scene(t, 12)
	x.open()
	picture := x.p.fold()
	for _, records := range [][][]byte{nil, {laidRecord(2, 1, 11, batch(3))}, {laidRecord(2, 1, 11, batch(0, give(0, 1))), laidRecord(0, 4, 12, batch(9, give(1, 2))), laidRecord(2, 2, 12, batch(0))}} {
		y := over(t, x.c, with(t, x.c, picture, records...), "a picture and records")
		if y.v.Last(0) != 3+len(records)/3 || y.v.Last(1) != 2 || y.v.Last(2) != (len(records)+1)/2 || y.v.Served() != 0 {
			t.Errorf("P13.1: %d records: Last %d, %d, %d", len(records), y.v.Last(0), y.v.Last(1), y.v.Last(2))
		}
		y.open()
		y.next(2, 40, give(1, 1), lock(0, 1, "z", 50))
		y.open()
	}
	// In the other order, and of one Gen more.
	d := with(t, x.c, []byte("no picture"), []byte("no record"))
	j := journal.Open(table, d)
	j.Compact(picture)
	over(t, x.c, d, "an old picture in the other half")
	j.Append(laidRecord(2, 1, 11, batch(3)))
	over(t, x.c, d, "an old record in the other half")
}

// TestOtherBeginning opens what was written by a Vault of another beginning.
func TestOtherBeginning(t *testing.T) {
	x := scene(t, 12)
	for _, c := range []ledger.Conf{conf(11), conf(5), conf(4), {Start: rows(2, 2, 1000), Events: 12}, {Start: rows(3, 1, 1000), Events: 12}, {Start: rows(3, 2, 2), Events: 12}, {Start: rows(4, 2, 1000), Events: 12}} {
		d := with(t, x.c, x.p.fold())
		y, ok := opened(c, tells(d), d.Len()/2)
		if Need(c) > d.Len() {
			isNone(t, 12, c, d, c)
			continue
		}
		if !ok {
			isNone(t, 2, c, d, c)
			continue
		}
		if v, e := Open(table, c, d); e != api.OK || len(v.Ledger().Events()) != len(y.l.Events()) {
			t.Errorf("P13.1: %v: %d", c, e)
		}
	}
	isNone(t, 2, conf(4), with(t, x.c, x.p.fold()))
	isNone(t, 2, ledger.Conf{Start: rows(2, 2, 1000), Events: 12}, with(t, x.c, x.p.fold()))
}
