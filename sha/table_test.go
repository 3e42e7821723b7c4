package sha

import (
	"bytes"
	"math"
	"math/big"
	"sync"
	"testing"
)

// wantWords are the words K as FIPS 180-4, 4.2.2, lists them.
func wantWords() [64]uint32 {
	return [64]uint32{
		0x428a2f98, 0x71374491, 0xb5c0fbcf, 0xe9b5dba5, 0x3956c25b, 0x59f111f1, 0x923f82a4, 0xab1c5ed5,
		0xd807aa98, 0x12835b01, 0x243185be, 0x550c7dc3, 0x72be5d74, 0x80deb1fe, 0x9bdc06a7, 0xc19bf174,
		0xe49b69c1, 0xefbe4786, 0x0fc19dc6, 0x240ca1cc, 0x2de92c6f, 0x4a7484aa, 0x5cb0a9dc, 0x76f988da,
		0x983e5152, 0xa831c66d, 0xb00327c8, 0xbf597fc7, 0xc6e00bf3, 0xd5a79147, 0x06ca6351, 0x14292967,
		0x27b70a85, 0x2e1b2138, 0x4d2c6dfc, 0x53380d13, 0x650a7354, 0x766a0abb, 0x81c2c92e, 0x92722c85,
		0xa2bfe8a1, 0xa81a664b, 0xc24b8b70, 0xc76c51a3, 0xd192e819, 0xd6990624, 0xf40e3585, 0x106aa070,
		0x19a4c116, 0x1e376c08, 0x2748774c, 0x34b0bcb5, 0x391c0cb3, 0x4ed8aa4a, 0x5b9cca4f, 0x682e6ff3,
		0x748f82ee, 0x78a5636f, 0x84c87814, 0x8cc70208, 0x90befffa, 0xa4506ceb, 0xbef9a3f7, 0xc67178f2,
	}
}

// wantStarts are the starting words as FIPS 180-4, 5.3.3, lists them.
func wantStarts() [8]uint32 {
	return [8]uint32{
		0x6a09e667, 0xbb67ae85, 0x3c6ef372, 0xa54ff53a, 0x510e527f, 0x9b05688c, 0x1f83d9ab, 0x5be0cd19,
	}
}

func TestTableWords(t *testing.T) {
	table := NewTable()
	for i, want := range wantWords() {
		if got := table.Word(i); got != want {
			t.Errorf("P2.1: Word(%d): %08x", i, got)
		}
	}
	for i, want := range wantStarts() {
		if got := table.Start(i); got != want {
			t.Errorf("P2.1: Start(%d): %08x", i, got)
		}
	}
}

// TestEachFirst asks each word of a Table that nobody asked yet.
func TestEachFirst(t *testing.T) {
	for i, want := range wantWords() {
		if got := NewTable().Word(i); got != want {
			t.Errorf("P2.1: Word(%d), asked first: %08x", i, got)
		}
	}
	for i, want := range wantStarts() {
		if got := NewTable().Start(i); got != want {
			t.Errorf("P2.1: Start(%d), asked first: %08x", i, got)
		}
	}
}

func TestNoWords(t *testing.T) {
	asked := NewTable()
	asked.Word(0)
	for _, table := range []*Table{NewTable(), asked} {
		for _, i := range []int{-1, -2, -64, 64, 65, 127, 1 << 32, 1<<32 + 1, 1 << 62, math.MaxInt, math.MinInt, math.MinInt + 1} {
			if got := table.Word(i); got != 0 {
				t.Errorf("P2.1: Word(%d): %08x", i, got)
			}
		}
		for _, i := range []int{-1, -2, -8, 8, 9, 15, 63, 64, 1 << 32, 1<<32 + 1, 1 << 62, math.MaxInt, math.MinInt, math.MinInt + 1} {
			if got := table.Start(i); got != 0 {
				t.Errorf("P2.1: Start(%d): %08x", i, got)
			}
		}
	}
}

// TestRoots holds the words against the roots: of a word w, some whole number
// of times 2^32 and w lies at or below the root times 2^32, and w + 1 above.
func TestRoots(t *testing.T) {
	table := NewTable()
	n := 0
	for p := int64(2); n < 64; p++ {
		if !big.NewInt(p).ProbablyPrime(20) {
			continue
		}
		holdRoot(t, "Word", p, 3, table.Word(n))
		if n < 8 {
			holdRoot(t, "Start", p, 2, table.Start(n))
		}
		n++
	}
}

func holdRoot(t *testing.T, name string, p, degree int64, w uint32) {
	whole := int64(1)
	for power(whole+1, degree).Cmp(big.NewInt(p)) <= 0 {
		whole++
	}
	root := whole<<32 + int64(w)
	bound := new(big.Int).Lsh(big.NewInt(p), uint(32*degree))
	if power(root, degree).Cmp(bound) > 0 || power(root+1, degree).Cmp(bound) <= 0 {
		t.Errorf("P2.1: %s of the prime %d: %08x", name, p, w)
	}
}

func power(n, degree int64) *big.Int {
	return new(big.Int).Exp(big.NewInt(n), big.NewInt(degree), nil)
}

// TestMadeByWhoAsksFirst looks inside: nothing is reckoned ahead of the first
// question, each kind of question reckons, and none does so again.
func TestMadeByWhoAsksFirst(t *testing.T) {
	for name, ask := range map[string]func(*Table){
		"Word":  func(t *Table) { t.Word(63) },
		"Start": func(t *Table) { t.Start(7) },
		"New":   func(t *Table) { New(t) },
		"One":   func(t *Table) { One(t, []byte("abc")) },
	} {
		table := NewTable()
		if table.words != [64]uint32{} || table.starts != [8]uint32{} {
			t.Errorf("P2.1: reckoned ahead of %s", name)
		}
		ask(table)
		if table.words != wantWords() || table.starts != wantStarts() {
			t.Errorf("P2.1: not reckoned when %s asks", name)
		}
		table.words[5], table.starts[5] = 1, 2
		ask(table)
		if table.Word(5) != 1 || table.Start(5) != 2 {
			t.Errorf("P2.1: reckoned again when %s asks", name)
		}
	}
}

// TestAskedAtOnce asks a Table that nobody asked yet from many places.
func TestAskedAtOnce(t *testing.T) {
	for range 50 {
		table := NewTable()
		good := make([]bool, 12)
		start := make(chan struct{})
		var all sync.WaitGroup
		for k := range good {
			all.Go(func() {
				<-start
				good[k] = askAll(table, k)
			})
		}
		close(start)
		all.Wait()
		for k, g := range good {
			if !g {
				t.Fatalf("P2.1: place %d", k)
			}
		}
	}
}

// askAll tells if the Table answers right, one kind of question first.
func askAll(table *Table, first int) bool {
	if first%3 == 0 && !bytes.Equal(One(table, []byte("abc")), want([]byte("abc"))) {
		return false
	}
	if first%3 == 1 && table.Start(7) != 0x5be0cd19 {
		return false
	}
	for i, w := range wantWords() {
		if table.Word(i) != w {
			return false
		}
	}
	for i, w := range wantStarts() {
		if table.Start(i) != w {
			return false
		}
	}
	return true
}

// TestTablesAreApart spoils one: another one does not show it.
func TestTablesAreApart(t *testing.T) {
	one, other := NewTable(), NewTable()
	one.Word(0)
	other.Word(0)
	one.words[0], one.starts[0] = 7, 7
	if other.Word(0) != 0x428a2f98 || other.Start(0) != 0x6a09e667 || NewTable().Word(0) != 0x428a2f98 {
		t.Error("P2.1: two Tables share their words")
	}
}
