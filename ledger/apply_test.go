package ledger

import (
	"math"
	"slices"
	"strings"
	"testing"

	"counterfoil/api"
	"counterfoil/req"
)

// scene is a ledger of so many Events at the clock 50, with six events: escrow 0
// is Open up to 60, 1 Open and past its deadline, 2 Claimed, 3 Refunded.
func scene(t *testing.T, events int) pair {
	t.Helper()
	return made(t, conf(events)).plays(t,
		asks(0, 10, lock(1, 0, 7, "s", 60), lock(1, 0, 5, "t", 50)),
		asks(1, 10, lock(0, 0, 6, "s", 70), lock(2, 0, 4, "u", 20)),
		asks(0, 12, claim(2, "s")),
		asks(1, 50, refund(3)))
}

// TestScene: what the scene says, told by hand.
func TestScene(t *testing.T) {
	x := scene(t, 400)
	if x.l.Clock() != 50 || len(x.l.Events()) != 6 || x.l.Has(0, 0) != 94 || x.l.Has(1, 0) != 44 || x.l.Has(2, 0) != 0 || x.l.Total(0) != 150 || x.l.Total(1) != 15 {
		t.Errorf("P12.2: %d, %v, %d, %d, %d", x.l.Clock(), x.l.Events(), x.l.Has(0, 0), x.l.Has(1, 0), x.l.Has(2, 0))
	}
	for id, want := range []int{0, 0, 1, 2} {
		if v, ok := x.l.Escrow(id); !ok || v.State != want {
			t.Errorf("P12.3: Escrow(%d): %v, %t", id, v, ok)
		}
	}
	want := req.Event{Kind: 2, From: 1, To: 0, Amount: 6, ID: 2, Hash: hashed(secret("s")), Deadline: 70}
	if got := x.l.Events()[2]; got != want {
		t.Errorf("P12.2: a Lock's event: %v", got)
	}
	x.holds(t, "the scene")
}

// TestClock: a clock below its own, at it, above it, and of no tick.
func TestClock(t *testing.T) {
	for _, first := range []int{0, 1, 5, 1 << 32, last - 1, last} {
		for _, then := range []int{math.MinInt, -1 << 40, -1, 0, 1, 2, 4, 5, 6, 1<<32 - 1, 1 << 32, 1<<32 + 1, last - 1, last, last + 1, 1 << 41, math.MaxInt} {
			x := made(t, conf(9))
			x.apply(t, asks(0, first))
			a := x.apply(t, asks(1, then, give(0, 0, 1), lock(2, 0, 2, "s", last)))
			want := first
			if then > first && then <= last {
				want = then
			}
			if a.Clock != want || x.l.Clock() != want {
				t.Errorf("P12.2: at %d, told %d: %d, %d", first, then, a.Clock, x.l.Clock())
			}
		}
	}
}

// TestClockOfRefused: the clock is set whatever comes of the requests, of no party
// too.
func TestClockOfRefused(t *testing.T) {
	x := made(t, conf(9))
	for i, s := range []step{asks(0, 1, give(0, 0, 1)), asks(-1, 2, give(1, 0, 1)), asks(3, 3), asks(0, 4, req.Req{}), asks(math.MaxInt, 5, refund(0))} {
		if a := x.apply(t, s); a.Clock != i+1 || a.Seen != 0 {
			t.Errorf("P12.2: %v: %v", s, a)
		}
	}
	x.holds(t, "refused")
}

// TestAtItsClock: a Lock, a Claim and a Refund are at the ledger's clock, not at
// the one that is told.
func TestAtItsClock(t *testing.T) {
	for _, told := range []int{-1, 0, 49, 50, last + 1, math.MaxInt} {
		x := scene(t, 400)
		a := x.apply(t, asks(0, told, lock(1, 0, 1, "s", 50), lock(1, 0, 1, "s", 51), refund(0), refund(1)))
		if got := codes(a); !slices.Equal(got, []api.Errno{11, 0, 11, 0}) {
			t.Errorf("P12.2: told %d: %v", told, got)
		}
		a = x.apply(t, asks(1, told, claim(4, "s"), claim(0, "s")))
		if got := codes(a); !slices.Equal(got, []api.Errno{0, 0}) {
			t.Errorf("P12.2: told %d: %v", told, got)
		}
		a = x.apply(t, asks(0, 51, lock(1, 0, 1, "s", 51), lock(1, 0, 1, "s", 52)))
		if got := codes(a); !slices.Equal(got, []api.Errno{11, 0}) {
			t.Errorf("P12.2: told 51: %v", got)
		}
		if got := codes(x.apply(t, asks(1, 52, claim(5, "s")))); !slices.Equal(got, []api.Errno{11}) {
			t.Errorf("P12.2: told 52: %v", got)
		}
	}
}

// refusal is a request by party that is refused by code in the scene.
type refusal struct {
	why   string
	party int
	q     req.Req
	code  api.Errno
}

func refusals() []refusal {
	short, long := strings.Repeat("h", 31), strings.Repeat("h", 33)
	return []refusal{
		{"to no party", 0, give(3, 0, 1), 1},
		{"to no party of 255", 0, give(255, 0, 1), 1},
		{"of no asset", 0, give(1, 2, 1), 1},
		{"of Amount 0", 0, give(1, 0, 0), 1},
		{"of Amount 0 to oneself", 0, give(0, 0, 0), 1},
		{"to oneself", 0, give(0, 0, 1), 14},
		{"to oneself of more than there is", 0, give(0, 0, 95), 14},
		{"of more than there is", 0, give(1, 0, 95), 7},
		{"of the greatest amount", 0, give(1, 0, most), 7},
		{"of what another one has", 2, give(1, 0, 1), 7},
		{"to 256", 0, give(256, 0, 1), 1},
		{"below 0", 0, give(1, 0, -1), 1},
		{"above all amounts", 0, give(1, 0, most+1), 1},
		{"lock to no party", 0, lock(3, 0, 1, "s", 99), 1},
		{"lock of no asset", 0, lock(1, 2, 1, "s", 99), 1},
		{"lock of Amount 0", 0, lock(1, 0, 0, "s", 99), 1},
		{"lock of Amount 0 to oneself", 0, lock(0, 0, 0, "s", 1), 1},
		{"lock to oneself", 0, lock(0, 0, 1, "s", 99), 14},
		{"lock to oneself, too late", 0, lock(0, 0, 1, "s", 50), 14},
		{"lock up to now", 0, lock(1, 0, 1, "s", 50), 11},
		{"lock up to now of more than there is", 0, lock(1, 0, 95, "s", 0), 11},
		{"lock of more than there is", 0, lock(1, 0, 95, "s", 51), 7},
		{"lock up to no tick", 0, lock(1, 0, 1, "s", last+1), 1},
		{"lock up to below 0", 0, lock(1, 0, 1, "s", -1), 1},
		{"a short hash", 0, req.Req{Kind: 2, To: 1, Amount: 1, Hash: short, Deadline: 99}, 1},
		{"a long hash", 0, req.Req{Kind: 2, To: 1, Amount: 1, Hash: long, Deadline: 99}, 1},
		{"no hash", 0, req.Req{Kind: 2, To: 1, Amount: 1, Deadline: 99}, 1},
		{"a Lock's own number", 0, req.Req{Kind: 2, To: 1, Amount: 1, Hash: hashed("a"), Deadline: 99, ID: 4}, 1},
		{"claim of none", 1, claim(4, "s"), 8},
		{"claim of 65535", 1, claim(65535, "s"), 8},
		{"claim of 65536", 1, claim(65536, "s"), 1},
		{"claim of -1", 1, claim(-1, "s"), 1},
		{"claim by its From", 0, claim(0, "s"), 14},
		{"claim by a third one", 2, claim(0, "s"), 14},
		{"claim by its From of a claimed one", 1, claim(2, "s"), 14},
		{"claim of a claimed one", 0, claim(2, "s"), 9},
		{"claim of a refunded one", 2, claim(3, "u"), 9},
		{"claim at the deadline", 1, claim(1, "t"), 11},
		{"claim at the deadline by another secret", 1, claim(1, "s"), 11},
		{"claim by another secret", 1, claim(0, "t"), 10},
		{"claim by a short secret", 1, req.Req{Kind: 3, Secret: short}, 1},
		{"claim by a long secret", 1, req.Req{Kind: 3, Secret: long}, 1},
		{"claim without a secret", 1, req.Req{Kind: 3}, 1},
		{"refund of none", 0, refund(4), 8},
		{"refund of 65536", 0, refund(65536), 1},
		{"refund of -1", 0, refund(-1), 1},
		{"refund by its To", 1, refund(0), 14},
		{"refund by its To, past the deadline", 1, refund(1), 14},
		{"refund of a claimed one", 1, refund(2), 9},
		{"refund of a refunded one", 1, refund(3), 9},
		{"refund too early", 0, refund(0), 11},
		{"refund with a secret", 0, req.Req{Kind: 4, ID: 1, Secret: secret("t")}, 1},
		{"no kind", 0, req.Req{}, 1},
		{"kind 5", 0, req.Req{Kind: 5}, 1},
		{"kind 257", 0, req.Req{Kind: 257, To: 1, Amount: 1}, 1},
		{"kind -1", 0, req.Req{Kind: -1, To: 1, Amount: 1}, 1},
	}
}

// TestRefused: what is refused, alone and amidst such as are done: with an error
// nothing changes.
func TestRefused(t *testing.T) {
	for _, r := range refusals() {
		x := scene(t, 400)
		a := x.apply(t, step{r.party, 0, req.Batch{Seen: 6, Reqs: []req.Req{r.q}}})
		if !alike(a, req.Answer{Clock: 50, Seen: 6, Replies: []req.Reply{{Code: r.code}}}) {
			t.Errorf("P12.2: %s: %v, not %d", r.why, a, r.code)
		}
		x.holds(t, r.why)
		amid := asks(r.party, 0, r.q, refund(9), r.q, req.Req{}, r.q)
		if got := codes(x.apply(t, amid)); !slices.Equal(got, []api.Errno{r.code, 8, r.code, 1, r.code}) {
			t.Errorf("P12.2: %s: thrice: %v", r.why, got)
		}
		x.plays(t, asks(0, 0, give(2, 1, 1), lock(2, 1, 1, "s", 99), refund(1)), asks(1, 0, claim(0, "s")))
	}
}

// TestNoParty: each request of a party that is none is ErrRange, ahead of all.
func TestNoParty(t *testing.T) {
	for _, events := range []int{8, 9, 10, 400} {
		for _, party := range nones {
			if between(party, 0, 2) {
				continue
			}
			x := scene(t, events)
			l := []req.Req{give(1, 0, 1), give(party, 0, 1), lock(1, 0, 1, "s", 99), claim(0, "s"), claim(9, "s"), refund(1), refund(9), {}}
			for _, r := range refusals() {
				l = append(l, r.q)
			}
			for _, e := range codes(x.apply(t, asks(party, 0, l...))) {
				if e != api.ErrRange {
					t.Fatalf("P12.2: of party %d: %d", party, e)
				}
			}
			x.holds(t, "no party")
		}
	}
}

// field sets one field of a request to a number or a text.
type field struct {
	name    string
	set     func(q *req.Req, i int)
	choices int
}

func numbers(name string, at func(q *req.Req) *int, values ...int) field {
	return field{name, func(q *req.Req, i int) { *at(q) = values[i] }, len(values)}
}

func texts(name string, at func(q *req.Req) *string, values ...string) field {
	return field{name, func(q *req.Req, i int) { *at(q) = values[i] }, len(values)}
}

// fields are all of a request, with what stands at their edges in the scene.
func fields() []field {
	s, h := secret("s"), hashed(secret("s"))
	return []field{
		numbers("Kind", func(q *req.Req) *int { return &q.Kind }, math.MinInt, -1, 0, 1, 2, 3, 4, 5, 255, 256, 257, 260),
		numbers("To", func(q *req.Req) *int { return &q.To }, math.MinInt, -1, 0, 1, 2, 3, 15, 16, 255, 256, 257),
		numbers("Asset", func(q *req.Req) *int { return &q.Asset }, -1, 0, 1, 2, 4, 255, 256, math.MaxInt),
		numbers("Amount", func(q *req.Req) *int { return &q.Amount }, math.MinInt, -1, 0, 1, 5, 10, 11, 44, 45, 94, 95, most, most+1, math.MaxInt),
		numbers("ID", func(q *req.Req) *int { return &q.ID }, math.MinInt, -1, 0, 1, 2, 3, 4, 65535, 65536, 65537, math.MaxInt),
		numbers("Deadline", func(q *req.Req) *int { return &q.Deadline }, math.MinInt, -1, 0, 1, 49, 50, 51, last, last+1, math.MaxInt),
		texts("Hash", func(q *req.Req) *string { return &q.Hash }, "", "h", h[:31], h, s, h+"h"),
		texts("Secret", func(q *req.Req) *string { return &q.Secret }, "", "s", s[:31], s, secret("t"), secret("u"), s+"s"),
	}
}

// TestEachTwoFields turns each two fields of a request of each kind, asked by each
// party, with much room, two places, one, and none.
func TestEachTwoFields(t *testing.T) {
	for _, events := range []int{8, 9, 10, 400} {
		x := scene(t, events)
		for _, q := range []req.Req{give(1, 0, 1), lock(1, 0, 1, "s", 99), claim(0, "s"), refund(1)} {
			for i, f := range fields() {
				for _, g := range fields()[i+1:] {
					x = eachTwo(t, x, q, f, g)
				}
			}
		}
	}
}

// eachTwo asks x for q with each choice of f and g, and answers the pair to go on
// with.
func eachTwo(t *testing.T, x pair, q req.Req, f, g field) pair {
	t.Helper()
	for i := range f.choices {
		for j := range g.choices {
			f.set(&q, i)
			g.set(&q, j)
			for party := range 3 {
				if a := x.apply(t, step{party, 0, req.Batch{Seen: 6, Reqs: []req.Req{q}}}); a.Seen > 6 {
					x = scene(t, x.p.most)
				}
			}
		}
	}
	return x
}

// TestReplies: there are as many as there were requests, MaxReqs at most, and the
// others are not done.
func TestReplies(t *testing.T) {
	for _, n := range []int{0, 1, 2, 63, 64, 65, 66, 127, 128, 129, 256, 300, 1000} {
		for _, q := range []req.Req{give(1, 0, 1), lock(1, 0, 1, "s", 9), claim(0, "s"), {}} {
			x := made(t, conf(400))
			a := x.apply(t, asks(0, 1, slices.Repeat([]req.Req{q}, n)...))
			if len(a.Replies) != min(n, 64) {
				t.Errorf("P12.2: %d requests: %d Replies", n, len(a.Replies))
			}
			if q.Kind == 1 && (x.l.Has(1, 0) != 50+min(n, 64) || a.Seen != min(n, 64)) {
				t.Errorf("P12.2: %d requests: %d were done, %d seen", n, x.l.Has(1, 0)-50, a.Seen)
			}
		}
	}
}

// TestInOrder: each request is asked behind the ones ahead of it.
func TestInOrder(t *testing.T) {
	x := made(t, conf(400))
	a := x.apply(t, asks(2, 0, give(0, 0, 1), give(0, 1, 3), give(0, 1, 3), give(0, 1, 2), give(0, 1, 1)))
	if got := codes(a); !slices.Equal(got, []api.Errno{7, 0, 7, 0, 7}) {
		t.Errorf("P12.2: %v", got)
	}
	a = x.apply(t, asks(0, 5, refund(0), lock(2, 0, 100, "s", 6), give(1, 0, 1), lock(2, 0, 1, "s", 6), lock(2, 1, 15, "s", 6), refund(0)))
	if got := codes(a); !slices.Equal(got, []api.Errno{8, 0, 7, 7, 0, 11}) {
		t.Errorf("P12.2: %v", got)
	}
	a = x.apply(t, asks(2, 5, give(1, 0, 100), claim(0, "s"), claim(0, "s"), give(1, 0, 100), claim(1, "t"), claim(1, "s")))
	if got := codes(a); !slices.Equal(got, []api.Errno{7, 0, 9, 0, 10, 0}) {
		t.Errorf("P12.2: %v", got)
	}
	x.holds(t, "in order")
}

// TestLockNumbers: a Lock's number stands in its Reply and in its event; of no
// other request a Reply has one.
func TestLockNumbers(t *testing.T) {
	x := made(t, conf(400))
	for i := range 20 {
		a := x.apply(t, step{0, i, req.Batch{Seen: len(x.p.events), Reqs: []req.Req{
			give(1, 0, 1), lock(1, 0, 1, "s", 99), lock(1, 0, 0, "s", 99), lock(2, 0, 1, "t", 99), refund(2*i + 1), claim(2*i+1, "s"),
		}}})
		if !slices.Equal(a.Replies, []req.Reply{{}, {ID: 2 * i}, {Code: 1}, {ID: 2*i + 1}, {Code: 11}, {Code: 14}}) {
			t.Fatalf("P12.2: %v", a.Replies)
		}
		if len(a.Events) != 3 || a.Events[1].ID != 2*i || a.Events[2].ID != 2*i+1 {
			t.Fatalf("P12.2: %v", a.Events)
		}
	}
	for i := range 20 {
		a := x.apply(t, asks(1, 0, claim(2*i, "s")))
		b := x.apply(t, asks(0, 99, refund(2*i+1)))
		c := x.apply(t, asks(2, 0, claim(2*i+1, "t")))
		if i == 0 && (a.Replies[0] != req.Reply{} || b.Replies[0] != req.Reply{} || c.Replies[0] != req.Reply{Code: 9}) {
			t.Fatalf("P12.2: %v, %v, %v", a.Replies, b.Replies, c.Replies)
		}
	}
	x.holds(t, "many locks")
}

// TestSeen: the events from Seen on, counted behind the requests.
func TestSeen(t *testing.T) {
	for _, seen := range []int{math.MinInt, -65536, -2, -1, 0, 1, 3, 5, 6, 7, 8, 9, 10, 255, 65535, 65536, 1 << 32, math.MaxInt} {
		x := scene(t, 400)
		for _, l := range [][]req.Req{nil, {give(1, 0, 1), give(1, 0, 95), lock(2, 0, 2, "s", 99)}, {{}}} {
			a := x.apply(t, step{0, 0, req.Batch{Seen: seen, Reqs: l}})
			all := x.p.events
			var want []req.Event
			if between(seen, 0, len(all)) {
				want = all[seen:]
			}
			if !slices.Equal(a.Events, want) || a.Seen != len(all) {
				t.Errorf("P12.2: Seen %d of %d: %v", seen, len(all), a)
			}
		}
		if len(x.p.events) != 8 {
			t.Fatalf("%d events", len(x.p.events))
		}
	}
}

// TestPoll: an empty batch tells the clock, and no events; it changes nothing.
func TestPoll(t *testing.T) {
	x := made(t, conf(3))
	for _, b := range []req.Batch{{}, {Reqs: []req.Req{}}, {Seen: 1}, {Seen: -1}} {
		for _, party := range []int{0, 2, 3, -1} {
			if a := x.apply(t, step{party, 7, b}); !alike(a, req.Answer{Clock: 7}) {
				t.Errorf("P12.2: a poll %v: %v", b, a)
			}
		}
	}
	x.holds(t, "polled")
}
