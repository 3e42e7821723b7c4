package line_test

import (
	"bytes"
	"math/rand"
	"testing"

	"counterfoil/api"
	"counterfoil/line"
	"counterfoil/seal"
)

// step is one call, and what it is handed.
type step struct {
	send bool
	body []byte
	n    seal.Note
}

// pick answers the next step of a row that has come to seq: mostly what is due, and
// else what is near to it.
func pick(r *rand.Rand, party, which, seq int) step {
	body := some(r.Intn(40), r.Intn(1000))
	if r.Intn(3) == 0 {
		return step{send: true, body: body}
	}
	n := seal.Note{Party: party, Ledger: which, Way: 1, Seq: seq, Body: body}
	switch r.Intn(8) {
	case 0:
		n.Party += r.Intn(3) - 1
	case 1:
		n.Ledger += r.Intn(3) - 1
	case 2:
		n.Way = r.Intn(4) - 1
	case 3:
		n.Seq += r.Intn(5) - 2
	case 4:
		n.Seq = r.Intn(5) - 1
	case 5:
		n.Party, n.Way, n.Seq = n.Party+r.Intn(2), r.Intn(2), n.Seq-r.Intn(2)
	}
	return step{n: n}
}

// TestManyCalls asks long rows of a line and of a plain one: each number is answered
// once, in order, and each is the next one.
func TestManyCalls(t *testing.T) {
	for seed := range 60 {
		r := rand.New(rand.NewSource(int64(seed)))
		first := []int{0, 1, 200, 65000, 1<<31 - 50, topmost - 30, topmost, -5}[seed%8]
		x := open(t, seed%5-1, seed%3, first)
		sent, answered := map[int]int{}, map[int]int{}
		for range 2000 {
			s := pick(r, seed%5-1, seed%3, x.l.Seq())
			if s.send {
				if n, e := x.send(s.body); e == api.OK {
					sent[n.Seq]++
				}
				continue
			}
			if _, e := x.got(s.n); e == api.OK {
				answered[s.n.Seq]++
			}
		}
		begin := max(first, 0)
		if len(sent) != x.l.Seq()-begin || len(sent)-len(answered) > 1 {
			t.Errorf("P16.3: %d numbers sent, %d answered, up to %d", len(sent), len(answered), x.l.Seq())
		}
		for k := begin + 1; k <= x.l.Seq(); k++ {
			due := 1
			if k == x.l.Seq() && x.l.Busy() {
				due = 0
			}
			if sent[k] != 1 || answered[k] != due {
				t.Errorf("P16.3: number %d was sent %d times, answered %d times", k, sent[k], answered[k])
			}
		}
	}
}

// TestLongTalk goes up to the last number. Each answer is lost, or told once or more,
// and what was told to earlier numbers comes in between.
func TestLongTalk(t *testing.T) {
	r := rand.New(rand.NewSource(7))
	x := open(t, 3, 1, topmost-5000)
	late := []seal.Note{x.told([]byte("none"))}
	for k := 1; k <= 5000; k++ {
		x.send(some(k%20, 1))
		answers := 0
		for x.l.Busy() {
			old := late[r.Intn(len(late))]
			if _, e := x.got(old); e != api.ErrStale {
				t.Fatalf("P16.3: number %d is answered late: %d", old.Seq, e)
			}
			n := x.told(some(k%20, r.Intn(100)))
			for range r.Intn(4) {
				if _, e := x.got(n); e == api.OK {
					answers++
				}
			}
		}
		late = append(late, x.told(some(k%20, 2)))
		if answers != 1 || x.l.Seq() != topmost-5000+k {
			t.Fatalf("P16.3: number %d was answered %d times", x.l.Seq(), answers)
		}
	}
	if _, e := x.send(nil); e != api.ErrRange {
		t.Errorf("P16.1: behind the last number: %d", e)
	}
}

// TestSameCalls asks the same rows of two lines: their answers are the same ones.
func TestSameCalls(t *testing.T) {
	for seed := range 20 {
		r := rand.New(rand.NewSource(int64(seed) + 1000))
		a, b := line.New(3, 1, seed), line.New(3, 1, seed)
		for range 500 {
			s := pick(r, 3, 1, a.Seq())
			if s.send {
				n, e := a.Send(s.body)
				m, f := b.Send(s.body)
				if e != f || !same(n, m) {
					t.Fatalf("P0.5: Send: %s, %d and %s, %d", show(n), e, show(m), f)
				}
				continue
			}
			c, e := a.Got(s.n)
			d, f := b.Got(s.n)
			if e != f || !bytes.Equal(c, d) || a.Seq() != b.Seq() || a.Busy() != b.Busy() {
				t.Fatalf("P0.5: Got: %x, %d and %x, %d", c, e, d, f)
			}
		}
	}
}
