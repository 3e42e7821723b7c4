package gate_test

import (
	"bytes"
	"encoding/hex"
	"math"
	"slices"
	"testing"

	"counterfoil/api"
	"counterfoil/gate"
	"counterfoil/mac"
)

// Keys, receipts and notes of the seed 1, 2, 3, as another program worked them out.
const (
	knownKey     = "ee919d3136411538ae37b07cf7284dd5929fa02e5d8d5bbfb1437d75ddb0bae0"
	knownStamp   = "7a29fd0cdedc2b89aff1f252cbbba95a953a68f705123038773a0bff4a941949"
	knownReceipt = "70bcfbfa3a935cfb5e084d6c9031b39479f02adbcb07ee53a7dafd4ed3d5f9a6"
	knownFar     = "42a44988e4a8777ccfa34c3182e6357867dc3c4396f58d14ec7401d5f7252b6a"
	knownAsk     = "6e000100000000010000000e0000010101000000000000000005c086c039d37ea54c2980301d9a4bfb19ed069e86e45ff1b723b0871686d126fa"
	knownTell    = "6e000101000000010000003c0000000000000007000101000000000101000100000000000000000571b0179de0f472bfca8072700471607bbea88f92c0f79c711b47a86baa27382de8f349b7d6eb0e921d0bc0217ccec6f5bbdba6acfafafab8b52e814539329e22"
)

// seedSizes lie about the length from which on a seed counts as its hash.
func seedSizes() []int { return []int{0, 1, 2, 31, 32, 33, 63, 64, 65, 66, 128, 1000} }

// bytesOf are numbers about those that go into a byte, and far ones.
func bytesOf() []int {
	return []int{
		0, 1, 2, 3, 15, 16, 17, 127, 128, 254, 255, 256, 257, 258, 271, 511, 512, 65535, 65536, 65537,
		-1, -2, -127, -128, -129, -254, -255, -256, -257, -511, -512, -513, -65536,
		1<<32 - 1, 1 << 32, 1<<32 + 3, -1 << 32, -1<<32 + 5, 1 << 62, math.MaxInt, math.MaxInt - 1, math.MinInt, math.MinInt + 1,
	}
}

// seqsOf are numbers about those that go into four bytes, and far ones.
func seqsOf() []int {
	return []int{
		0, 1, 2, 255, 256, 257, 258, 65535, 65536, 65537, 1<<24 - 1, 1 << 24, 1<<24 + 1, 0x01020304, 0xfffefdfc, 1<<31 - 1, 1 << 31,
		1<<32 - 2, 1<<32 - 1, 1 << 32, 1<<32 + 1, 1<<32 + 258, 1<<33 - 1, 1 << 40, 0x0102030405060708, 1 << 62,
		-1, -2, -255, -256, -257, -65536, -1 << 24, -1 << 31, -1<<31 - 1, -1<<32 + 1, -1 << 32, -1<<32 - 1, -1 << 40,
		math.MaxInt, math.MaxInt - 1, math.MinInt, math.MinInt + 1,
	}
}

func unhex(s string) []byte {
	b, e := hex.DecodeString(s)
	if e != nil {
		panic(e)
	}
	return b
}

// TestKnownKeys holds keys, a stamp and receipts against ones that were worked out
// by another program.
func TestKnownKeys(t *testing.T) {
	seed := []byte{1, 2, 3}
	if b := gate.Keys(table, seed, 3, 1); !bytes.Equal(b, unhex(knownKey)) {
		t.Errorf("P15.1: Keys: %x", b)
	}
	if b := gate.Stamp(table, seed, 1); !bytes.Equal(b, unhex(knownStamp)) {
		t.Errorf("P15.1: Stamp: %x", b)
	}
	if b := gate.Receipt(table, unhex(knownStamp), 3, 1, 258, []byte("yes")); !bytes.Equal(b, unhex(knownReceipt)) {
		t.Errorf("P15.1: Receipt: %x", b)
	}
	if b := gate.Receipt(table, unhex(knownStamp), 259, -255, 1<<32+258, []byte("yes")); !bytes.Equal(b, unhex(knownReceipt)) {
		t.Errorf("P15.1: Receipt of numbers that do not go in: %x", b)
	}
	if b := gate.Receipt(table, nil, -1, -1, -1, nil); !bytes.Equal(b, unhex(knownFar)) {
		t.Errorf("P15.1: Receipt of nothing: %x", b)
	}
}

// TestKeys holds Keys and Stamp of seeds of each edge, and of numbers of each edge,
// against mac.Key, and against the library.
func TestKeys(t *testing.T) {
	for _, size := range seedSizes() {
		seed := some(size, 1)
		for _, which := range bytesOf() {
			stamp := gate.Stamp(table, seed, which)
			if !bytes.Equal(stamp, mac.Key(table, seed, 255, which)) || !bytes.Equal(stamp, stampOf(seed, which)) {
				t.Fatalf("P15.1: Stamp of a seed of %d bytes, %d: %x", size, which, stamp)
			}
			for _, party := range bytesOf() {
				key := gate.Keys(table, seed, party, which)
				if !bytes.Equal(key, mac.Key(table, seed, party, which)) || !bytes.Equal(key, keyOf(seed, party, which)) {
					t.Fatalf("P15.1: Keys of a seed of %d bytes, %d, %d: %x", size, party, which, key)
				}
			}
		}
	}
}

// TestKeysDiffer: each party shares another key with each ledger, none is a stamp,
// and another seed has other ones.
func TestKeysDiffer(t *testing.T) {
	var all [][]byte
	for _, size := range seedSizes() {
		seed := some(size, 2)
		for which := range 2 {
			all = append(all, gate.Stamp(table, seed, which))
			for party := range 16 {
				all = append(all, gate.Keys(table, seed, party, which))
			}
		}
	}
	for i, b := range all {
		if len(b) != 32 {
			t.Fatalf("P15.1: key %d has %d bytes", i, len(b))
		}
		for k, c := range all[:i] {
			if bytes.Equal(b, c) {
				t.Fatalf("P15.1: keys %d and %d are the same one", i, k)
			}
		}
	}
}

// TestReceipt holds a receipt, byte by byte of what it is made of, against
// mac.One and against the library.
func TestReceipt(t *testing.T) {
	check := func(stamp []byte, party, which, seq int, answer []byte) {
		t.Helper()
		head := []byte{low(party), low(which), byte(uint(seq) >> 24 % 256), byte(uint(seq) >> 16 % 256), byte(uint(seq) >> 8 % 256), low(seq)}
		r := gate.Receipt(table, stamp, party, which, seq, answer)
		if !bytes.Equal(r, mac.One(table, stamp, slices.Concat(head, answer))) || !bytes.Equal(r, receiptOf(stamp, party, which, seq, answer)) {
			t.Fatalf("P15.1: Receipt of a stamp of %d bytes, %d, %d, %d, %d bytes: %x", len(stamp), party, which, seq, len(answer), r)
		}
	}
	stamp := some(32, 3)
	for _, party := range bytesOf() {
		for _, which := range bytesOf() {
			for _, seq := range seqsOf() {
				check(stamp, party, which, seq, []byte("yes"))
			}
		}
	}
	for _, size := range seedSizes() {
		for _, n := range []int{0, 1, 2, 3, 31, 32, 33, 49, 50, 57, 58, 59, 63, 64, 65, 122, 1000, 60000, 70000} {
			check(some(size, 4), 3, 1, 258, some(n, 5))
			check(some(size, 4), 15, 0, topmost, make([]byte, n))
		}
	}
}

// TestReceiptsDiffer: what is another one in any of all makes another receipt.
func TestReceiptsDiffer(t *testing.T) {
	var all [][]byte
	for _, stamp := range [][]byte{nil, some(32, 3), some(32, 4)} {
		for _, party := range []int{0, 1, 15} {
			for which := range 2 {
				for _, seq := range []int{1, 2, 256, 65536, 1 << 24, topmost} {
					for _, answer := range [][]byte{nil, {0}, {1}, {0, 0}, some(32, 5)} {
						all = append(all, gate.Receipt(table, stamp, party, which, seq, answer))
					}
				}
			}
		}
	}
	slices.SortFunc(all, bytes.Compare)
	if n := len(slices.CompactFunc(all, bytes.Equal)); n != 3*3*2*6*5 {
		t.Errorf("P15.1: %d receipts", n)
	}
}

// TestSplit splits bodies of each length.
func TestSplit(t *testing.T) {
	sizes := []int{60000, 60032, 70000, 1 << 20}
	for n := range 200 {
		sizes = append(sizes, n)
	}
	for _, n := range sizes {
		body := some(n, 6)
		answer, receipt, e := gate.Split(body)
		if n < 32 {
			if e != api.ErrForm || len(answer) > 0 || len(receipt) > 0 {
				t.Errorf("P15.1: Split of %d bytes: %d, %x, %x", n, e, answer, receipt)
			}
			continue
		}
		if e != api.OK || len(receipt) != 32 || len(answer) != n-32 || !bytes.Equal(slices.Concat(answer, receipt), body) {
			t.Errorf("P15.1: Split of %d bytes: %d, %x, %x", n, e, answer, receipt)
		}
	}
	if _, _, e := gate.Split(nil); e != api.ErrForm {
		t.Errorf("P15.1: Split of nil: %d", e)
	}
}
