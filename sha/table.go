package sha

import (
	"math/bits"
	"sync"
)

// Table has the 64 words and the eight starting words of SHA-256. It may be
// asked from anywhere, at once too.
type Table struct {
	once   sync.Once
	words  [64]uint32
	starts [8]uint32
}

// NewTable answers a Table; who asks it first makes its words.
func NewTable() *Table { return &Table{} }

// Word answers word i of 0 to 63, and 0 of others.
func (t *Table) Word(i int) uint32 {
	if i < 0 || i >= len(t.words) {
		return 0
	}
	return t.made().words[i]
}

// Start answers starting word i of 0 to 7, and 0 of others.
func (t *Table) Start(i int) uint32 {
	if i < 0 || i >= len(t.starts) {
		return 0
	}
	return t.made().starts[i]
}

// made answers t with its words reckoned.
func (t *Table) made() *Table {
	t.once.Do(t.reckon)
	return t
}

func (t *Table) reckon() {
	p := uint64(2)
	for i := range t.words {
		if i < len(t.starts) {
			t.starts[i] = fraction(p, squareTop)
		}
		// The cube of a root 2^32 times as great is 2^96 times as great.
		t.words[i] = fraction(p<<32, cubeTop)
		p = nextPrime(p)
	}
}

// fraction answers the lowest 32 bits of the greatest number below 2^35 whose
// power is less than top * 2^64; powerTop answers a power's bits from 64 on.
// (No power is just top * 2^64: a prime's roots are no fractions.)
func fraction(top uint64, powerTop func(uint64) uint64) uint32 {
	root := uint64(0)
	for bit := uint64(1) << 34; bit > 0; bit >>= 1 {
		if powerTop(root|bit) < top {
			root |= bit
		}
	}
	return uint32(root)
}

// squareTop answers the bits from 64 on of n squared.
func squareTop(n uint64) uint64 {
	top, _ := bits.Mul64(n, n)
	return top
}

// cubeTop answers the bits from 64 on of n cubed, n below 2^35.
func cubeTop(n uint64) uint64 {
	top, low := bits.Mul64(n, n)
	carry, _ := bits.Mul64(low, n)
	return top*n + carry
}

func nextPrime(n uint64) uint64 {
	n++
	for !prime(n) {
		n++
	}
	return n
}

// prime tells if n, 2 or more, is a prime.
func prime(n uint64) bool {
	for d := uint64(2); d*d <= n; d++ {
		if n%d == 0 {
			return false
		}
	}
	return true
}
