package vault

import (
	"bytes"
	"slices"
	"testing"

	"counterfoil/api"
	"counterfoil/disk"
	"counterfoil/ledger"
	"counterfoil/req"
	"counterfoil/sha"
)

// spoil turns all bytes of b, and of its spare room.
func spoil(b []byte) {
	b = b[:cap(b)]
	for i := range b {
		b[i] ^= 0xff
	}
}

// roomy is conf(events) with rows and numbers behind the length of each list.
func roomy(events int) ledger.Conf {
	c := conf(events)
	for i, row := range c.Start {
		c.Start[i] = append(slices.Clone(row), -1, -2)[:len(row)]
	}
	c.Start = append(c.Start, []int{-3}, nil)[:len(c.Start)]
	return c
}

// isRoomy tells if c is as roomy made it.
func isRoomy(c ledger.Conf) bool {
	for i, row := range conf(0).Start {
		if !slices.Equal(c.Start[i][:len(row)+2], append(row, -1, -2)) {
			return false
		}
	}
	behind := c.Start[:len(c.Start)+2]
	return len(c.Start) == 3 && slices.Equal(behind[3], []int{-3}) && behind[4] == nil
}

// TestConfStays: a Conf is neither changed nor kept, nor what lies behind its lists.
func TestConfStays(t *testing.T) {
	s := scene(t, 12)
	for i, d := range []*disk.Disk{sized(t, Need(s.c)), s.d, with(t, s.c, s.p.fold()), with(t, s.c, s.p.fold(), laidRecord(2, 1, 12, batch(0, give(1, 0))))} {
		x := over(t, conf(12), d, "a Conf that is written over")
		c := roomy(12)
		if Need(c) != Need(conf(12)) || !isRoomy(c) {
			t.Fatalf("P13.4: Need: %v", c)
		}
		v, e := Open(table, c, d)
		if e != api.OK || !isRoomy(c) {
			t.Fatalf("P13.4: disk %d: %d, %v", i, e, c)
		}
		x.v = v
		x.next(2, 30, give(0, 1), lock(1, 1, "k", 80))
		if !isRoomy(c) {
			t.Fatalf("P13.4: disk %d: a Conf is changed: %v", i, c)
		}
		for _, row := range c.Start {
			row = row[:cap(row)]
			for k := range row {
				row[k] = 1 << 61
			}
		}
		clear(c.Start[:cap(c.Start)])
		x.holds()
		for gen := x.p.store.gen; x.p.store.gen < gen+2; {
			x.next(1, 31, give(0, 0), give(2, 0))
		}
		x.open()
	}
}

// TestBatchStays: the bytes of a batch are neither changed nor kept, nor what lies
// behind them, whatever the answer is.
func TestBatchStays(t *testing.T) {
	for i := range readies {
		for _, fuse := range []int{-1, 0, 2, 5} {
			x := ready(t, i)
			room := append(batch(1, give(1, 2), lock(1, 1, "k", 80), lock(1, 1, "k", 2)), bytes.Repeat([]byte{0xee}, 90)...)
			was := bytes.Clone(room)
			in := room[:len(room)-90]
			x.fuse(fuse)
			x.handle(0, x.p.last(0), 50, in)
			x.handle(3, 1, 50, in)
			x.handle(0, 0, 50, in)
			x.handle(1, x.p.last(1)+1, 50, in[:9])
			x.handle(0, x.p.last(0)+1, 50, in)
			if !bytes.Equal(room, was) {
				t.Fatalf("P13.4: a batch is changed: %x", room)
			}
			spoil(room)
			x.holds()
			x.crash([]bool{true})
			x.open()
		}
	}
}

// TestLongBatchBehind: requests that lie behind the length of a batch are not
// asked for.
func TestLongBatchBehind(t *testing.T) {
	x := scene(t, 40)
	all := batch(0, give(1, 1), give(1, 2), give(1, 3))
	all[2] = 2
	n := len(batch(0, give(1, 1)))
	x.refused(2, 0, 4, 20, all[:n])
	x.refused(2, 0, 4, 20, all[:n:n])
	x.refused(2, 0, 4, 20, all)
	got, e := x.handle(0, 4, 20, all[:2*n-3])
	if a, _ := req.DecodeAnswer(got); e != api.OK || len(a.Replies) != 2 {
		t.Errorf("P13.4: %v, %d", a, e)
	}
}

// TestAnswersAreNew: what is written into an answer, or appended to it, no other
// one shows, and no Vault.
func TestAnswersAreNew(t *testing.T) {
	for n := range 40 {
		x := scene(t, 400)
		fresh := x.next(0, 20, slices.Repeat([]req.Req{give(1, 1)}, n)...)
		want := bytes.Clone(fresh)
		again, _ := x.v.Handle(0, 4, 0, nil)
		for _, b := range [][]byte{fresh, again} {
			_ = append(b, 1, 2, 3)
			spoil(b)
			for range 2 {
				other, e := x.v.Handle(0, 4, 0, nil)
				if e != api.OK || !bytes.Equal(other, want) {
					t.Fatalf("P13.4: an answer that is written over: %x", other)
				}
				spoil(other)
			}
			x.holds()
		}
		kept, _ := x.v.Handle(0, 4, 0, nil)
		x.next(0, 21, give(1, 5))
		x.next(1, 22, give(0, 5))
		if !bytes.Equal(kept, want) {
			t.Fatalf("P13.4: an answer of before is another one now: %x", kept)
		}
		l := x.v.Ledger().Events()
		clear(l[:cap(l)])
		x.holds()
		x.open()
	}
}

// TestPictureIsNotShared: what was read of a picture, or of records, is nobody
// else's memory.
func TestPictureIsNotShared(t *testing.T) {
	s := scene(t, 12)
	d := with(t, s.c, s.p.fold(), laidRecord(2, 1, 12, batch(0, give(1, 0))))
	x := over(t, s.c, d, "one of two")
	y := over(t, s.c, d, "two of two")
	for party := range 3 {
		b, _ := x.v.Handle(party, x.v.Last(party), 0, nil)
		spoil(b)
		y.holds()
		x.holds()
	}
	for i := range d.Len() {
		d.Write(i, bytes.Repeat([]byte{0xee}, 64))
	}
	for _, v := range []*pair{x, y} {
		for party := range 3 {
			b, e := v.v.Handle(party, v.v.Last(party), 0, nil)
			if want := laidAnswer(v.p.lasts[party].answer); e != api.OK || !bytes.Equal(b, want) {
				t.Errorf("P13.2: the disk is read again: %x, %d", b, e)
			}
		}
	}
}

// TestTwoVaults: two of one Table and one Conf, over two disks, know nothing of one
// another.
func TestTwoVaults(t *testing.T) {
	c := conf(12)
	x, y := paired(t, c, "the one"), paired(t, c, "the other one")
	x.next(0, 5, give(1, 7), lock(1, 3, "s", 20))
	y.holds()
	y.next(1, 6, lock(0, 50, "t", 9))
	x.holds()
	y.fuse(0)
	y.refused(13, 1, 2, 7, batch(0))
	x.holds()
	x.next(1, 8, claim(0, "s"))
	y.crash(nil)
	y.open()
	x.holds()
}

// TestTables: another Table does as well, and a new one.
func TestTables(t *testing.T) {
	x := scene(t, 12)
	for id := 2; id < 4; id++ {
		v, e := Open(sha.NewTable(), x.c, x.d)
		if e != api.OK {
			t.Fatalf("P13.1: %d", e)
		}
		x.v, x.p.served = v, 0
		x.next(0, 30, lock(1, 1, "q", 50))
		x.next(1, 30, claim(id, "q"))
		if v, ok := x.v.Ledger().Escrow(id); !ok || v.State != 1 {
			t.Errorf("P13.2: escrow %d: %v", id, v)
		}
	}
}
