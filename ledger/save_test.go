package ledger

import (
	"bytes"
	"slices"
	"testing"

	"counterfoil/api"
	"counterfoil/req"
)

// loads holds Load of b, as a Save of a ledger of c, against the plain one, and
// answers both, and false, if it is none.
func loads(t *testing.T, c Conf, b []byte, why ...any) (pair, bool) {
	t.Helper()
	p, ok := load(c, b)
	l, e := Load(table, c, b)
	if !ok && (l != nil || e != api.ErrForm) || ok && (l == nil || e != api.OK) {
		t.Fatalf("P12.4: %v: Load of %v: %d; a Save: %t", why, b, e, ok)
	}
	x := pair{l, p}
	if !ok {
		return x, false
	}
	if got := x.differ(); got != "" {
		t.Fatalf("P12.4: %v: Load of %v: %s", why, b, got)
	}
	return x, true
}

// saved are the bytes of l.
func saved(t *testing.T, l *Ledger) []byte {
	t.Helper()
	b, e := l.Save()
	if e != api.OK {
		t.Fatalf("P12.4: Save: %d", e)
	}
	return b
}

// TestSaveByHand: the bytes of a small one.
func TestSaveByHand(t *testing.T) {
	x := made(t, Conf{[][]int{{9}, {1}}, 5})
	if b := saved(t, x.l); !bytes.Equal(b, make([]byte, 10)) {
		t.Errorf("P12.4: of a new one: %v", b)
	}
	x.plays(t, asks(1, 258, give(0, 0, 1)), asks(0, 259, lock(1, 0, 3, "s", 515)), asks(1, 300, claim(0, "s")), asks(0, 772))
	want := []byte{0, 0, 0, 0, 0, 0, 3, 4, 0, 3}
	want = append(want, 1, 0, 0, 0, 0, 0, 0, 1, 2, 1, 1, 0, 0, 0, 0, 0, 0, 0, 0, 0, 1)
	want = append(want, 0, 0, 0, 0, 0, 0, 0, 1, 3, 2, 0, 1, 0, 0, 0, 0, 0, 0, 0, 0, 3, 0, 0)
	want = append(want, hashed(secret("s"))...)
	want = append(want, 0, 0, 0, 0, 0, 0, 2, 3)
	want = append(want, 1, 0, 0, 0, 0, 0, 0, 1, 44, 3, 0, 0)
	want = append(want, secret("s")...)
	if b := saved(t, x.l); !bytes.Equal(b, want) {
		t.Errorf("P12.4: %v", b)
	}
	x = made(t, conf(2)).plays(t, asks(0, 1, lock(1, 0, 1, "s", 2)), asks(0, 2, refund(0)))
	if b := saved(t, x.l); !bytes.Equal(b[len(b)-12:], []byte{0, 0, 0, 0, 0, 0, 0, 0, 2, 4, 0, 0}) {
		t.Errorf("P12.4: a Refund at the end: %v", b)
	}
}

// samples are ledgers of conf(12): a new one, one that only has a clock, and such
// with events of each kind.
func samples(t *testing.T) []pair {
	t.Helper()
	return []pair{
		made(t, conf(12)),
		made(t, conf(12)).plays(t, asks(0, last)),
		made(t, conf(12)).plays(t, asks(0, 0, give(1, 0, 1))),
		made(t, conf(12)).plays(t, asks(2, last, give(1, 1, 5))),
		made(t, conf(12)).plays(t, asks(1, 3, lock(2, 0, 50, "s", last))),
		scene(t, 12),
		scene(t, 12).plays(t, asks(1, 51, give(2, 0, 2), claim(0, "s")), asks(0, 600, refund(1))),
	}
}

// TestLoadOfSave: what is loaded is as the one that was saved, and goes on as it.
func TestLoadOfSave(t *testing.T) {
	for i, x := range samples(t) {
		y, ok := loads(t, conf(12), saved(t, x.l), i)
		if !ok || !slices.Equal(y.p.save(), x.p.save()) {
			t.Fatalf("P12.4: sample %d is not loaded", i)
		}
		y.holds(t, "loaded")
		for _, s := range []step{
			asks(0, 0, give(1, 0, 94), give(1, 0, 90), lock(2, 1, 3, "v", 900)),
			asks(1, 70, claim(0, "t"), claim(0, "s"), refund(0), give(2, 0, 44)),
			asks(0, 800, refund(1), refund(4), lock(1, 1, 1, "w", 801)),
			asks(2, 0, claim(4, "v"), claim(5, "w"), claim(0, "s"), claim(1, "s")),
			asks(1, last, claim(5, "w"), refund(0), refund(1), refund(2)),
			{1, last, req.Batch{Seen: 3}},
		} {
			if a, b := x.apply(t, s), y.apply(t, s); !alike(a, b) {
				t.Fatalf("P12.4: sample %d: %v: %v, and loaded %v", i, s, a, b)
			}
			if !bytes.Equal(saved(t, x.l), saved(t, y.l)) {
				t.Fatalf("P12.4: sample %d: behind %v", i, s)
			}
		}
		x.holds(t, "saved, and gone on")
		y.holds(t, "loaded, and gone on")
	}
}

// TestSaveChangesNothing: a ledger goes on as if there had been no Save.
func TestSaveChangesNothing(t *testing.T) {
	x := scene(t, 12)
	first := saved(t, x.l)
	if !bytes.Equal(first, saved(t, x.l)) {
		t.Error("P12.4: two Saves")
	}
	x.holds(t, "saved")
	x.plays(t, asks(0, 0, refund(1)), asks(1, 0, claim(0, "s"), give(2, 0, 1)))
	if bytes.Equal(first, saved(t, x.l)) {
		t.Error("P12.4: the Save of one that went on")
	}
}

// TestCutBytes: bytes that are cut at any place, and such that go on.
func TestCutBytes(t *testing.T) {
	for i, x := range samples(t) {
		b := saved(t, x.l)
		for n := range b {
			if _, ok := loads(t, conf(12), b[:n:n], i, n); ok {
				t.Errorf("P12.4: sample %d: %d bytes of %d", i, n, len(b))
			}
			if _, ok := loads(t, conf(12), b[n:], i, n); ok && n > 0 {
				t.Errorf("P12.4: sample %d: from byte %d on", i, n)
			}
		}
		for _, more := range [][]byte{{0}, {1}, {255}, make([]byte, 8), make([]byte, 9), make([]byte, 100), b, b[10:]} {
			if _, ok := loads(t, conf(12), slices.Concat(b, more), i, more); ok && len(more) > 0 {
				t.Errorf("P12.4: sample %d: %v behind it", i, more)
			}
		}
	}
}

// TestTurnedBytes: each byte of each sample is each other one.
func TestTurnedBytes(t *testing.T) {
	good := 0
	for i, x := range samples(t) {
		b := saved(t, x.l)
		for at := range b {
			for c := range 256 {
				turned := bytes.Clone(b)
				turned[at] = byte(c)
				if _, ok := loads(t, conf(12), turned, i, at, c); ok && byte(c) != b[at] {
					good++
				}
			}
		}
	}
	if good < 1000 {
		t.Errorf("P12.4: %d turned ones are Saves of another ledger", good)
	}
}

// TestLeftOut: one byte or some are left out, doubled, or put in.
func TestLeftOut(t *testing.T) {
	for i, x := range samples(t) {
		b := saved(t, x.l)
		for at := range b {
			for n := 1; n <= 64 && at+n <= len(b); n++ {
				loads(t, conf(12), slices.Delete(bytes.Clone(b), at, at+n), i, at, n, "left out")
				loads(t, conf(12), slices.Insert(bytes.Clone(b), at, b[at:at+n]...), i, at, n, "doubled")
			}
			for _, c := range []byte{0, 1, 2, 3, 4, 255} {
				loads(t, conf(12), slices.Insert(bytes.Clone(b), at, c), i, at, c, "put in")
			}
		}
	}
}

// parts are the events of x as a Save has them, each with what is ahead of it.
func parts(x pair) [][]byte {
	var l [][]byte
	for i, v := range x.p.events {
		l = append(l, part(x.p.parties[i], x.p.clocks[i], v))
	}
	return l
}

// ofParts is a Save at clock with these events.
func ofParts(clock int, l [][]byte) []byte {
	return append(number(number(nil, clock, 8), len(l), 2), slices.Concat(l...)...)
}

// TestOtherEvents: events that are left out, turned about or doubled, and such as
// other ledgers did.
func TestOtherEvents(t *testing.T) {
	all := samples(t)
	x := all[len(all)-1]
	l := parts(x)
	if b := ofParts(600, l); !bytes.Equal(b, saved(t, x.l)) {
		t.Fatalf("P12.4: %v", b)
	}
	good := 0
	for i := range l {
		for j := range l {
			turned := slices.Clone(l)
			turned[i], turned[j] = l[j], l[i]
			for _, m := range [][][]byte{turned, slices.Delete(slices.Clone(l), min(i, j), max(i, j)), slices.Insert(slices.Clone(l), i, l[j])} {
				if _, ok := loads(t, conf(12), ofParts(600, m), i, j); ok {
					good++
				}
			}
		}
		loads(t, conf(12), append(ofParts(600, l[:i]), l[i]...), "one more than it tells of")
		loads(t, conf(12), number(ofParts(600, l[:i])[:8], i+1, 2), "none of those that it tells of")
	}
	if good < len(l) {
		t.Errorf("P12.4: %d of them are Saves", good)
	}
}

// part is an event that party asked for at clock, as a Save has it.
func part(party, clock int, v req.Event) []byte {
	return laid(number(number(nil, party, 1), clock, 8), v)
}

// TestNoSuchEvent: what no ledger of the beginning could have done.
func TestNoSuchEvent(t *testing.T) {
	h := hashed(secret("s"))
	open := part(0, 5, req.Event{Kind: 2, From: 0, To: 1, Amount: 7, Hash: h, Deadline: 9})
	for why, l := range map[string][][]byte{
		"from another one than who asked":      {part(1, 5, req.Event{Kind: 1, From: 0, To: 2, Amount: 1})},
		"of no party":                          {part(3, 5, req.Event{Kind: 1, From: 3, To: 0, Amount: 0})},
		"to no party":                          {part(0, 5, req.Event{Kind: 1, From: 0, To: 3, Amount: 1})},
		"of no asset":                          {part(0, 5, req.Event{Kind: 1, From: 0, To: 1, Asset: 2, Amount: 1})},
		"of Amount 0":                          {part(0, 5, req.Event{Kind: 1, From: 0, To: 1})},
		"to oneself":                           {part(0, 5, req.Event{Kind: 1, From: 0, To: 0, Amount: 1})},
		"of more than there is":                {part(0, 5, req.Event{Kind: 1, From: 0, To: 1, Amount: 101})},
		"of no kind":                           {part(0, 5, req.Event{})},
		"of kind 5":                            {part(0, 5, req.Event{Kind: 5})},
		"a Lock's number that is not due":      {part(0, 5, req.Event{Kind: 2, From: 0, To: 1, Amount: 7, ID: 1, Hash: h, Deadline: 9})},
		"a Lock up to now":                     {part(0, 5, req.Event{Kind: 2, From: 0, To: 1, Amount: 7, Hash: h, Deadline: 5})},
		"a Lock from another one":              {part(1, 5, req.Event{Kind: 2, From: 0, To: 2, Amount: 7, Hash: h, Deadline: 9})},
		"a Lock up to no tick":                 {part(0, 5, req.Event{Kind: 2, From: 0, To: 1, Amount: 7, Hash: h, Deadline: last + 1})},
		"at no tick":                           {part(0, last+1, req.Event{Kind: 1, From: 0, To: 1, Amount: 1})},
		"at a clock above the ledger's":        {part(0, 101, req.Event{Kind: 1, From: 0, To: 1, Amount: 1})},
		"at a clock that falls":                {part(0, 6, req.Event{Kind: 1, From: 0, To: 1, Amount: 1}), part(0, 5, req.Event{Kind: 1, From: 0, To: 1, Amount: 1})},
		"a Claim of none":                      {part(1, 5, req.Event{Kind: 3, Secret: secret("s")})},
		"a Claim by its From":                  {open, part(0, 6, req.Event{Kind: 3, Secret: secret("s")})},
		"a Claim by another secret":            {open, part(1, 6, req.Event{Kind: 3, Secret: secret("t")})},
		"a Claim at the deadline":              {open, part(1, 9, req.Event{Kind: 3, Secret: secret("s")})},
		"two Claims":                           {open, part(1, 6, req.Event{Kind: 3, Secret: secret("s")}), part(1, 6, req.Event{Kind: 3, Secret: secret("s")})},
		"a Refund too early":                   {open, part(0, 8, req.Event{Kind: 4})},
		"a Refund by its To":                   {open, part(1, 9, req.Event{Kind: 4})},
		"a Refund of another one":              {open, part(0, 9, req.Event{Kind: 4, ID: 1})},
		"a Refund behind a Claim":              {open, part(1, 6, req.Event{Kind: 3, Secret: secret("s")}), part(0, 9, req.Event{Kind: 4})},
		"a Lock with the number of another":    {open, open},
		"more than there may be":               slices.Repeat([][]byte{part(0, 5, req.Event{Kind: 1, From: 0, To: 1, Amount: 1})}, 13),
		"a Lock where there is but one place":  append(slices.Repeat([][]byte{part(0, 5, req.Event{Kind: 1, From: 0, To: 1, Amount: 1})}, 11), open),
		"a Transfer in a place that is locked": append(slices.Repeat([][]byte{part(0, 5, req.Event{Kind: 1, From: 0, To: 1, Amount: 1})}, 10), open, part(0, 5, req.Event{Kind: 1, From: 0, To: 1, Amount: 1})),
	} {
		if _, ok := loads(t, conf(12), ofParts(100, l), why); ok {
			t.Errorf("P12.4: %s is loaded", why)
		}
		if l, e := Load(table, conf(12), ofParts(100, l)); l != nil || e != api.ErrForm {
			t.Errorf("P12.4: %s: %d", why, e)
		}
	}
	if _, ok := loads(t, conf(12), ofParts(100, [][]byte{open, part(1, 8, req.Event{Kind: 3, Secret: secret("s")})})); !ok {
		t.Error("P12.4: what could be done")
	}
}

// TestLoadClock: the clock of a Save is a tick, and not below that of its last
// event.
func TestLoadClock(t *testing.T) {
	l := [][]byte{part(0, 5, req.Event{Kind: 1, From: 0, To: 1, Amount: 1})}
	for _, clock := range []int{0, 1, 4, 5, 6, 255, 256, last - 1, last, last + 1, 1 << 41, most, most + 1, 1<<63 - 1, -1, -1 << 63} {
		_, ok := loads(t, conf(12), ofParts(clock, l), clock)
		if ok != between(clock, 5, last) {
			t.Errorf("P12.4: clock %d: %t", clock, ok)
		}
		_, ok = loads(t, conf(12), ofParts(clock, nil), clock)
		if ok != between(clock, 0, last) {
			t.Errorf("P12.4: clock %d of a new one: %t", clock, ok)
		}
		at := [][]byte{part(0, clock, req.Event{Kind: 1, From: 0, To: 1, Amount: 1})}
		for _, whole := range []int{4, 5, 256, last, last + 1} {
			if _, ok := loads(t, conf(12), ofParts(whole, at), clock, whole); ok != (between(clock, 0, whole) && whole <= last) {
				t.Errorf("P12.4: an event at %d, clock %d: %t", clock, whole, ok)
			}
		}
	}
}

// TestHowMany: as many events as are told of, and no more than there may be.
func TestHowMany(t *testing.T) {
	one := part(0, 5, req.Event{Kind: 1, From: 0, To: 1, Asset: 0, Amount: 1})
	two := part(1, 5, req.Event{Kind: 1, From: 1, To: 0, Asset: 0, Amount: 1})
	for _, events := range []int{1, 2, 255, 256, 399, 400} {
		for n := max(events-2, 0); n < events+3; n++ {
			l := slices.Repeat([][]byte{one, two}, n)[:n]
			if _, ok := loads(t, conf(events), ofParts(5, l), events, n); ok != (n <= events) {
				t.Errorf("P12.4: %d events of %d: %t", n, events, ok)
			}
			for _, told := range []int{0, n - 1, n + 1, n + 256, 65535} {
				b := append(number(number(nil, 5, 8), told, 2), slices.Concat(l...)...)
				if _, ok := loads(t, conf(events), b, events, n, told); ok && told != n {
					t.Errorf("P12.4: %d events, told as %d", n, told)
				}
			}
		}
	}
}

// TestOtherBeginning: bytes of another beginning are none where a ledger of that
// one could not have done the same.
func TestOtherBeginning(t *testing.T) {
	good, bad := starts()
	for i, x := range samples(t) {
		b := saved(t, x.l)
		for _, events := range []int{1, 2, 5, 6, 7, 8, 9, 10, 11, 12, 13, 400} {
			for _, start := range append(good, [][]int{{12, 0}, {50, 10}, {2, 5}}, [][]int{{100}, {50}, {0}}, [][]int{{100, 0, 0}, {50, 0, 0}, {0, 5, 0}}, [][]int{{100, 10}, {50, 0}}) {
				loads(t, Conf{start, events}, b, i, events)
			}
		}
		for _, start := range bad {
			if l, e := Load(table, Conf{start, 12}, b); l != nil || e != api.ErrRange {
				t.Errorf("P12.4: Load of %v: %d", start, e)
			}
		}
		for _, events := range []int{-1, 0, 401} {
			if l, e := Load(table, conf(events), b); l != nil || e != api.ErrRange {
				t.Errorf("P12.4: Load of %d Events: %d", events, e)
			}
		}
	}
}

// TestManyBytes: long texts that are no Save.
func TestManyBytes(t *testing.T) {
	for _, c := range []byte{0, 1, 2, 3, 4, 255} {
		for _, n := range []int{1000, 65535, 65536, 1 << 20} {
			if _, ok := loads(t, conf(400), bytes.Repeat([]byte{c}, n), c, n); ok {
				t.Errorf("P12.4: %d bytes %d are loaded", n, c)
			}
		}
	}
}
