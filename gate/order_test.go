package gate_test

import (
	"testing"

	"counterfoil/api"
)

// fault is what may be wrong with a note, and with the vault that it comes to.
type fault struct {
	form       int // 0: none; else what no note of this gate has
	party      bool
	zero, key  bool
	down       bool
	seq        int // 0: due, 1: the last one again, 2: none of both
	body, full bool
}

// first is what has to be told of it, and counted by it: the chapter's order.
func (f fault) first() (api.Errno, int) {
	switch {
	case f.form > 0:
		return api.ErrForm, bad
	case f.party:
		return api.ErrParty, bad
	case f.zero:
		return api.ErrForm, bad
	case f.key:
		return api.ErrMac, bad
	case f.down:
		return api.ErrDown, refused
	case f.seq == 1:
		return api.OK, served
	case f.seq == 2:
		return api.ErrStale, stale
	case f.body:
		return api.ErrForm, refused
	case f.full:
		return api.ErrFull, refused
	}
	return api.OK, served
}

// faults are all choices of them.
func faults() []fault {
	var l []fault
	for i := range 1 << 6 {
		for form := range 6 {
			for seq := range 3 {
				l = append(l, fault{form, i&1 > 0, i&2 > 0, i&4 > 0, i&8 > 0, seq, i&16 > 0, i&32 > 0})
			}
		}
	}
	return l
}

// laid is a note that has these faults.
func (f fault) laid(x *pair) []byte {
	n := x.ask(1, x.w.Last(1)+1, batch(0))
	if f.party {
		n.party = 3
	}
	switch f.seq {
	case 1:
		n.seq--
	case 2:
		n.seq += 7
	}
	if f.zero {
		n.seq = 0
	}
	if f.body {
		n.body = []byte{0, 0, 1}
	}
	if f.form == 1 {
		n.which = 1 - n.which
	}
	if f.form == 2 {
		n.way = 1
	}
	n.key = keyOf(x.seed, n.party, n.which)
	if f.key {
		n.key = keyOf(x.seed, 2, n.which)
	}
	b := n.bytes()
	switch f.form {
	case 3:
		b[0] = 'm'
	case 4:
		b[11]++
	case 5:
		b = append(b, 0)
	}
	return b
}

// TestOrder takes notes of each choice of what may be wrong: the first one is told.
func TestOrder(t *testing.T) {
	kept := map[[2]bool]*pair{}
	for _, f := range faults() {
		x := kept[[2]bool{f.down, f.full}]
		if x == nil {
			x = standing(t, f.down, f.full)
			kept[[2]bool{f.down, f.full}] = x
		}
		e, counter := f.first()
		if e != api.OK {
			x.refused(e, counter, f.laid(x), 20)
			continue
		}
		was := x.m.Get(served)
		if b, wrong := x.take(f.laid(x), 20); wrong != api.OK || len(b) == 0 || x.m.Get(served) != was+1 {
			t.Fatalf("P15.2: %v: %d, %x", f, wrong, b)
		}
	}
	for _, x := range kept {
		x.holds()
	}
}

// standing is a pair that is Down or not, and whose journal is full or not.
func standing(t *testing.T, down, full bool) *pair {
	t.Helper()
	x := scene(t, 0)
	if full {
		x = crammed(t, 0)
	}
	if !down {
		return x
	}
	x.fuse(0)
	x.d.Sync()
	x.e.Sync()
	x.refused(13, refused, x.next(2).bytes(), 20)
	return x
}
