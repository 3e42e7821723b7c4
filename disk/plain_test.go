package disk

import (
	"bytes"
	"math/rand"
	"slices"
	"sync"
	"sync/atomic"
	"testing"
	"time"

	"counterfoil/api"
)

// plain is a Disk in the chapter's words, with each sector there twice.
type plain struct {
	last, now [][]byte
	pending   []bool
	set, down bool
	fuse      int
}

func newPlain(n int) *plain {
	return &plain{last: zeros(n), now: zeros(n), pending: make([]bool, n)}
}

// spent tells if the fuse lets nothing through.
func (p *plain) spent() bool {
	if p.set && p.fuse == 0 {
		p.down = true
		return true
	}
	if p.set {
		p.fuse--
	}
	return false
}

func (p *plain) write(i int, b []byte) api.Errno {
	switch {
	case p.down:
		return api.ErrDown
	case i < 0 || i >= len(p.now):
		return api.ErrRange
	case len(b) != 64:
		return api.ErrForm
	case p.spent():
		return api.ErrDown
	}
	p.now[i], p.pending[i] = bytes.Clone(b), true
	return api.OK
}

func (p *plain) read(i int) ([]byte, api.Errno) {
	switch {
	case p.down:
		return nil, api.ErrDown
	case i < 0 || i >= len(p.now):
		return nil, api.ErrRange
	}
	return p.now[i], api.OK
}

func (p *plain) sync() api.Errno {
	if p.down || p.spent() {
		return api.ErrDown
	}
	p.last = slices.Clone(p.now)
	clear(p.pending)
	return api.OK
}

func (p *plain) crash(keep []bool) {
	k := 0
	for i, is := range p.pending {
		if !is {
			continue
		}
		if k < len(keep) && keep[k] {
			p.last[i] = p.now[i]
		}
		k++
	}
	p.now = slices.Clone(p.last)
	clear(p.pending)
	p.set, p.down = false, false
}

func (p *plain) count() int {
	n := 0
	for _, is := range p.pending {
		if is {
			n++
		}
	}
	return n
}

// TestAsPlain does what comes, and holds a Disk against a plain one.
func TestAsPlain(t *testing.T) {
	r := rand.New(rand.NewSource(6))
	for run := range 300 {
		n := 1 + r.Intn(12)
		d, p := made(t, n), newPlain(n)
		for at := range 150 {
			if got, want := step(r, d, p, n); got != want {
				t.Fatalf("P6.1: run %d, step %d: %d, not %d", run, at, got, want)
			}
			if d.Down() != p.down || d.Pending() != p.count() || d.Len() != n {
				t.Fatalf("P6.2: run %d, step %d: Down %t, Pending %d, Len %d", run, at, d.Down(), d.Pending(), d.Len())
			}
			for i := -1; i <= n; i++ {
				got, e := d.Read(i)
				if want, f := p.read(i); e != f || !bytes.Equal(got, want) {
					t.Fatalf("P6.1: run %d, step %d: Read(%d): %d, %x, not %d, %x", run, at, i, e, got, f, want)
				}
			}
		}
	}
}

// step does one thing, chosen by r, to both, and tells what each answered.
func step(r *rand.Rand, d *Disk, p *plain, n int) (got, want api.Errno) {
	switch r.Intn(12) {
	case 0:
		return d.Sync(), p.sync()
	case 1:
		keep := make([]bool, r.Intn(n+2))
		for k := range keep {
			keep[k] = r.Intn(2) > 0
		}
		d.Crash(keep)
		p.crash(keep)
		return api.OK, api.OK
	case 2:
		k := r.Intn(20) - 4
		d.Fuse(k)
		p.set, p.fuse = k >= 0, k
		return api.OK, api.OK
	case 3:
		i, b := r.Intn(n+2)-1, make([]byte, 62+r.Intn(5))
		return d.Write(i, b), p.write(i, b)
	default:
		i, b := r.Intn(n), text(r.Intn(40))
		return d.Write(i, b), p.write(i, b)
	}
}

// TestDownFromManyPlaces waits in many places for a Disk that goes down, again
// and again: it is told in each of them.
func TestDownFromManyPlaces(t *testing.T) {
	d := made(t, 4)
	// A plain bool would be told as well, by luck; this does not build with one.
	var _ *atomic.Bool = &d.down
	for round := range 50 {
		var waiting sync.WaitGroup
		for range 6 {
			waiting.Go(func() {
				for !d.Down() {
				}
			})
		}
		told := make(chan struct{})
		go func() {
			waiting.Wait()
			close(told)
		}()
		d.Fuse(20)
		for c := range 20 {
			d.Write(c%4, text(c))
		}
		if e := call(d, round%2-1, 1); e != api.ErrDown {
			t.Fatalf("P6.1: a fuse that is spent: %d", e)
		}
		select {
		case <-told:
		case <-time.After(time.Minute):
			t.Fatal("P6.2: Down is not told in each place")
		}
		d.Crash(nil)
		if d.Down() {
			t.Fatal("P6.2: Down behind Crash")
		}
	}
}
