package line_test

import (
	"math/rand"
	"testing"

	"counterfoil/api"
	"counterfoil/disk"
	"counterfoil/gate"
	"counterfoil/ledger"
	"counterfoil/line"
	"counterfoil/meter"
	"counterfoil/req"
	"counterfoil/seal"
	"counterfoil/sha"
	"counterfoil/vault"
)

// scene is a party's line, the gate of its ledger, and the notes under way.
type scene struct {
	t     *testing.T
	table *sha.Table
	key   []byte
	v     *vault.Vault
	g     *gate.Gate
	l     *line.Line
	asks  [][]byte
	tells [][]byte
}

func newScene(t *testing.T) *scene {
	t.Helper()
	x := &scene{t: t, table: sha.NewTable(), l: line.New(1, api.Securities, 0)}
	c := ledger.Conf{Start: [][]int{{1000}, {1000}}, Events: 200}
	d, e := disk.New(vault.Need(c))
	if e != api.OK {
		t.Fatal(e)
	}
	if x.v, e = vault.Open(x.table, c, d); e != api.OK {
		t.Fatal(e)
	}
	x.g = gate.New(x.table, api.Securities, []byte("seed"), x.v, meter.New())
	x.key = gate.Keys(x.table, []byte("seed"), 1, api.Securities)
	return x
}

// put seals n and lays it among the notes under way.
func (x *scene) put(n seal.Note) {
	x.t.Helper()
	b, e := seal.Seal(x.table, x.key, n)
	if e != api.OK {
		x.t.Fatalf("P16.1: what a line sends is no note: %s, %d", show(n), e)
	}
	x.asks = append(x.asks, b)
}

// take hands one of the notes under way to the gate.
func (x *scene) take(b []byte) {
	if told, e := x.g.Take(b, 5); e == api.OK {
		x.tells = append(x.tells, told)
	}
}

// tell hands one of the answers under way to the line: true, if it was waited for.
func (x *scene) tell(b []byte) bool {
	x.t.Helper()
	n, e := seal.Open(x.table, x.key, b)
	if e != api.OK {
		x.t.Fatal(e)
	}
	_, e = x.l.Got(n)
	return e == api.OK
}

// TestOverNet talks with a gate by notes that are lost, doubled and turned about: each
// batch is handled once, and its answer is got once.
func TestOverNet(t *testing.T) {
	x := newScene(t)
	r := rand.New(rand.NewSource(3))
	for k := 1; k <= 100; k++ {
		body, e := req.EncodeBatch(req.Batch{Reqs: []req.Req{{Kind: req.Transfer, To: 0, Asset: 0, Amount: 1}}})
		if e != api.OK {
			t.Fatal(e)
		}
		n, e := x.l.Send(body)
		if e != api.OK {
			t.Fatalf("P16.1: Send: %d", e)
		}
		x.put(n)
		got := 0
		for x.l.Busy() {
			if again, ok := x.l.Again(); !ok || !same(again, n) {
				t.Fatalf("P16.1: Again: %s, %t, not %s", show(again), ok, show(n))
			}
			x.put(n)
			if r.Intn(2) == 0 {
				x.take(x.asks[r.Intn(len(x.asks))])
			}
			if len(x.tells) > 0 && r.Intn(2) == 0 && x.tell(x.tells[r.Intn(len(x.tells))]) {
				got++
			}
		}
		if got != 1 || x.v.Last(1) != k || x.l.Seq() != k {
			t.Fatalf("P16.3: batch %d: got %d times, the vault's last one is %d, the line's %d", k, got, x.v.Last(1), x.l.Seq())
		}
		if len(x.asks) > 20 {
			x.asks, x.tells = x.asks[len(x.asks)-20:], x.tells[max(0, len(x.tells)-20):]
		}
	}
	if x.v.Served() != 100 || x.v.Ledger().Has(0, 0) != 1100 {
		t.Errorf("P16.3: %d batches were handled, party 0 has %d", x.v.Served(), x.v.Ledger().Has(0, 0))
	}
}

// TestGoesOn: from the last number on, another line goes on with the talk.
func TestGoesOn(t *testing.T) {
	x := newScene(t)
	body, e := req.EncodeBatch(req.Batch{})
	if e != api.OK {
		t.Fatal(e)
	}
	for range 5 {
		x.l = line.New(1, api.Securities, x.v.Last(1))
		n, _ := x.l.Send(body)
		x.put(n)
		x.take(x.asks[len(x.asks)-1])
		if last := len(x.tells) - 1; last != n.Seq-1 || !x.tell(x.tells[last]) {
			t.Fatalf("P16.1: a line from %d on is not answered", n.Seq-1)
		}
	}
}
