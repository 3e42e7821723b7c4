package mac

import (
	"bytes"
	"crypto/hmac"
	"crypto/sha256"
	"encoding/hex"
	"math"
	"math/rand"
	"strings"
	"sync"
	"testing"
	"time"

	"counterfoil/sha"
)

// keySizes lie about the length from which on a key counts as its hash, and
// about those of one and of more blocks.
func keySizes() []int {
	return []int{0, 1, 2, 20, 31, 32, 33, 62, 63, 64, 65, 66, 100, 127, 128, 129, 1000}
}

// textSizes lie about a block's end, and about the place where the end of a
// text needs a block more.
func textSizes() []int {
	return []int{0, 1, 2, 54, 55, 56, 57, 63, 64, 65, 118, 119, 120, 121, 127, 128, 129, 191, 192, 193}
}

// text answers n bytes of which no two blocks are alike.
func text(n int) []byte {
	b := make([]byte, n)
	rand.New(rand.NewSource(int64(n) + 3)).Read(b)
	return b
}

// keyOf answers a key of n bytes that is another one than the text of n.
func keyOf(n int) []byte {
	b := make([]byte, n)
	rand.New(rand.NewSource(-int64(n) - 1)).Read(b)
	return b
}

// want is the sum by the library.
func want(key, b []byte) []byte {
	h := hmac.New(sha256.New, key)
	h.Write(b)
	return h.Sum(nil)
}

// written is the sum behind the parts.
func written(t *sha.Table, key []byte, parts ...[]byte) []byte {
	m := New(t, key)
	for _, p := range parts {
		m.Write(p)
	}
	return m.Sum()
}

// TestKnown holds the sums that RFC 4231 tells.
func TestKnown(t *testing.T) {
	table := sha.NewTable()
	long := strings.Repeat("\xaa", 131)
	var rising []byte
	for i := range 25 {
		rising = append(rising, byte(i+1))
	}
	for i, c := range []struct{ key, text, sum string }{
		{strings.Repeat("\x0b", 20), "Hi There", "b0344c61d8db38535ca8afceaf0bf12b881dc200c9833da726e9376c2e32cff7"},
		{"Jefe", "what do ya want for nothing?", "5bdcc146bf60754e6a042426089575c75a003f089d2739839dec58b964ec3843"},
		{strings.Repeat("\xaa", 20), strings.Repeat("\xdd", 50), "773ea91e36800e46854db8ebd09181a72959098b3ef8c122d9635514ced565fe"},
		{string(rising), strings.Repeat("\xcd", 50), "82558a389a443c0ea4cc819899f2083a85f0faa3e578f8077a2e3ff46729665b"},
		{long, "Test Using Larger Than Block-Size Key - Hash Key First", "60e431591ee0b67f0d8a26aacbf5b77f8e0bc6213728c5140546040f0ee37f54"},
		{long, "This is a test using a larger than block-size key and a larger than block-size data. The key needs to be hashed before being used by the HMAC algorithm.", "9b09ffa71b942fcb27635fbcd5b0e944bfdc63644f0713938a7f51535c3a35e2"},
		{"", "", "b613679a0814d9ec772f95d778c35fc5ff1697c493715653c6c712144292c5ad"},
	} {
		if got := hex.EncodeToString(One(table, []byte(c.key), []byte(c.text))); got != c.sum {
			t.Errorf("P3.1: One, case %d: %s", i, got)
		}
		if got := hex.EncodeToString(written(table, []byte(c.key), []byte(c.text))); got != c.sum {
			t.Errorf("P3.1: Sum, case %d: %s", i, got)
		}
	}
}

func TestEveryKeySize(t *testing.T) {
	table := sha.NewTable()
	for n := range 300 {
		for i, key := range [][]byte{keyOf(n), make([]byte, n), bytes.Repeat([]byte{0xff}, n), bytes.Repeat([]byte{0x5c}, n), bytes.Repeat([]byte{0x36}, n)} {
			for _, b := range [][]byte{nil, text(3), text(64), text(100)} {
				if got := One(table, key, b); !bytes.Equal(got, want(key, b)) {
					t.Errorf("P3.1: a key of %d bytes, case %d, a text of %d: %x", n, i, len(b), got)
				}
			}
		}
	}
}

func TestEveryTextSize(t *testing.T) {
	table := sha.NewTable()
	for _, k := range keySizes() {
		key := keyOf(k)
		for n := range 260 {
			if got := One(table, key, text(n)); !bytes.Equal(got, want(key, text(n))) {
				t.Errorf("P3.1: a key of %d bytes, a text of %d: %x", k, n, got)
			}
		}
	}
	for _, n := range []int{1<<13 - 1, 1 << 13, 1<<16 + 55, 1<<20 + 56} {
		if got := One(table, keyOf(32), text(n)); !bytes.Equal(got, want(keyOf(32), text(n))) {
			t.Errorf("P3.1: a text of %d bytes: %x", n, got)
		}
	}
}

// TestWhatAKeyCountsAs holds the edge of 64 bytes by the keys themselves: up
// to there bytes 0 behind a key are as good as none, from there on its hash
// is as good as itself.
func TestWhatAKeyCountsAs(t *testing.T) {
	table, b := sha.NewTable(), text(70)
	for n := range 200 {
		key := keyOf(n)
		got := One(table, key, b)
		hashed := bytes.Equal(got, One(table, sha.One(table, key), b))
		if hashed != (n > 64) {
			t.Errorf("P3.1: a key of %d bytes: counts as its hash: %v", n, hashed)
		}
		if n <= 64 && !bytes.Equal(got, One(table, append(bytes.Clone(key), make([]byte, 64-n)...), b)) {
			t.Errorf("P3.1: a key of %d bytes, bytes 0 behind it", n)
		}
	}
	if bytes.Equal(One(table, keyOf(64), b), One(table, append(keyOf(64), 0), b)) {
		t.Error("P3.1: a byte 0 behind 64 bytes counts")
	}
}

func TestNothingWritten(t *testing.T) {
	table := sha.NewTable()
	for _, k := range keySizes() {
		key := keyOf(k)
		for i, got := range [][]byte{
			New(table, key).Sum(), One(table, key, nil), One(table, key, []byte{}),
			written(table, key, nil), written(table, key, []byte{}, nil, []byte{}),
		} {
			if !bytes.Equal(got, want(key, nil)) {
				t.Errorf("P3.1: nothing, a key of %d bytes, case %d: %x", k, i, got)
			}
		}
	}
	if !bytes.Equal(One(table, nil, text(9)), One(table, []byte{}, text(9))) {
		t.Error("P3.1: no key and the empty key")
	}
}

// TestSumInTheMiddle asks for the sum behind each of the sizes, twice, and
// writes on.
func TestSumInTheMiddle(t *testing.T) {
	table, b := sha.NewTable(), text(500)
	for _, k := range []int{0, 20, 64, 65} {
		key := keyOf(k)
		for _, first := range textSizes() {
			for _, second := range textSizes() {
				m := New(table, key)
				m.Write(b[:first])
				for range 2 {
					if got := m.Sum(); !bytes.Equal(got, want(key, b[:first])) {
						t.Fatalf("P3.1: a key of %d bytes, a text of %d: %x", k, first, got)
					}
				}
				m.Write(b[first : first+second])
				if got := m.Sum(); !bytes.Equal(got, want(key, b[:first+second])) {
					t.Fatalf("P3.1: a key of %d bytes, %d bytes behind a Sum at %d: %x", k, second, first, got)
				}
			}
		}
	}
}

func TestSumBehindEveryByte(t *testing.T) {
	b, key := text(200), keyOf(40)
	m := New(sha.NewTable(), key)
	for i := range b {
		m.Write(b[i : i+1])
		if got := m.Sum(); !bytes.Equal(got, want(key, b[:i+1])) {
			t.Fatalf("P3.1: Sum behind %d bytes: %x", i+1, got)
		}
	}
}

// TestTwoParts writes each size's text cut at every place.
func TestTwoParts(t *testing.T) {
	table := sha.NewTable()
	for _, k := range []int{0, 32, 63, 64, 65, 130} {
		key := keyOf(k)
		for _, n := range textSizes() {
			b := text(n)
			one := One(table, key, b)
			for cut := range n + 1 {
				if got := written(table, key, b[:cut], b[cut:]); !bytes.Equal(got, one) {
					t.Errorf("P3.4: a key of %d bytes, %d bytes cut at %d: %x", k, n, cut, got)
				}
				if got := written(table, key, nil, b[:cut], []byte{}, b[cut:], nil); !bytes.Equal(got, one) {
					t.Errorf("P3.4: a key of %d bytes, %d bytes cut at %d, nothing beside: %x", k, n, cut, got)
				}
			}
		}
	}
}

func TestEvenParts(t *testing.T) {
	table, key := sha.NewTable(), keyOf(64)
	for _, n := range append(textSizes(), 500, 1000) {
		b := text(n)
		for size := 1; size <= 200; size++ {
			m := New(table, key)
			for rest := b; len(rest) > 0; {
				k := min(size, len(rest))
				m.Write(rest[:k])
				rest = rest[k:]
			}
			if got := m.Sum(); !bytes.Equal(got, One(table, key, b)) {
				t.Errorf("P3.4: %d bytes by %d: %x", n, size, got)
			}
		}
	}
}

func TestUnevenParts(t *testing.T) {
	table, r := sha.NewTable(), rand.New(rand.NewSource(1))
	for range 500 {
		b, key := text(r.Intn(700)), keyOf(r.Intn(150))
		m := New(table, key)
		for rest := b; len(rest) > 0; {
			k := min(r.Intn(150), len(rest))
			m.Write(rest[:k])
			rest = rest[k:]
		}
		if got := m.Sum(); !bytes.Equal(got, One(table, key, b)) || !bytes.Equal(got, want(key, b)) {
			t.Fatalf("P3.4: a key of %d bytes, a text of %d: %x", len(key), len(b), got)
		}
	}
}

func TestEqual(t *testing.T) {
	for n := range 200 {
		a, b := text(n), text(n)
		if !Equal(a, b) || !Equal(a, a) {
			t.Errorf("P3.1: %d bytes, the same", n)
		}
		// Two places may not make up for one another.
		for i := range n {
			for bit := range 8 {
				b[i] ^= 1 << bit
				if Equal(a, b) || Equal(b, a) {
					t.Errorf("P3.1: %d bytes, bit %d of the byte %d differs", n, bit, i)
				}
				b[n-1-i] ^= 1 << bit
				if 2*i != n-1 && Equal(a, b) {
					t.Errorf("P3.1: %d bytes, bit %d of the bytes %d and %d differs", n, bit, i, n-1-i)
				}
				copy(b, a)
			}
		}
	}
}

func TestEqualOfOtherLengths(t *testing.T) {
	if !Equal(nil, nil) || !Equal(nil, []byte{}) || !Equal([]byte{}, nil) {
		t.Error("P3.1: nothing is nothing")
	}
	for n := range 100 {
		for _, b := range [][]byte{text(n), make([]byte, n)} {
			// What lies behind a length is not looked at.
			for _, more := range [][]byte{append(bytes.Clone(b), 0), append(bytes.Clone(b), 7), append(bytes.Clone(b), b...)} {
				if len(more) > n && (Equal(b, more) || Equal(more, b)) {
					t.Errorf("P3.1: %d bytes and %d", n, len(more))
				}
				if !Equal(b, more[:n]) || !Equal(more[:n:n], b) {
					t.Errorf("P3.1: %d bytes and the same with room", n)
				}
			}
		}
	}
	if Equal(make([]byte, 256), nil) || Equal(nil, make([]byte, 256)) || Equal(make([]byte, 256), make([]byte, 512)) {
		t.Error("P3.1: lengths that are 256 apart")
	}
}

// quickest is the least time that Equal took of some tries.
func quickest(a, b []byte) time.Duration {
	least := time.Duration(math.MaxInt64)
	for range 7 {
		start := time.Now()
		Equal(a, b)
		least = min(least, time.Since(start))
	}
	return least
}

// TestEqualLooksAtAll holds that a difference at either end doesn't end the
// search: one that ended there would take a thousandth of the time, or less.
func TestEqualLooksAtAll(t *testing.T) {
	a := text(1 << 21)
	same := quickest(a, bytes.Clone(a))
	for _, i := range []int{0, len(a) - 1} {
		b := bytes.Clone(a)
		b[i] ^= 1
		if Equal(a, b) {
			t.Errorf("P3.1: the byte %d differs", i)
		}
		if took := quickest(a, b); took < same/20 {
			t.Errorf("P3.1: the byte %d differs: %v, where the same bytes take %v", i, took, same)
		}
	}
}

func TestKey(t *testing.T) {
	table := sha.NewTable()
	for _, n := range keySizes() {
		seed := keyOf(n)
		for a := -600; a <= 600; a += 37 {
			for b := -600; b <= 600; b += 41 {
				pair := []byte{byte((a + 1024) % 256), byte((b + 1024) % 256)}
				if got := Key(table, seed, a, b); !bytes.Equal(got, want(seed, pair)) {
					t.Errorf("P3.2: a seed of %d bytes, Key(%d, %d): %x", n, a, b, got)
				}
			}
		}
	}
}

func TestKeyEdges(t *testing.T) {
	table, seed := sha.NewTable(), []byte("seed")
	bytesOf := map[int]byte{
		0: 0, 1: 1, 127: 127, 128: 128, 254: 254, 255: 255, 256: 0, 257: 1, 511: 255, 512: 0, 65536: 0, 65537: 1,
		-1: 255, -2: 254, -127: 129, -128: 128, -129: 127, -255: 1, -256: 0, -257: 255, -512: 0,
		math.MaxInt: 255, math.MinInt: 0, math.MaxInt - 1: 254, math.MinInt + 1: 1,
		math.MaxInt32: 255, math.MinInt32: 0, 1 << 40: 0,
	}
	for a, x := range bytesOf {
		for b, y := range bytesOf {
			if got := Key(table, seed, a, b); !bytes.Equal(got, want(seed, []byte{x, y})) {
				t.Errorf("P3.2: Key(%d, %d): %x", a, b, got)
			}
		}
	}
}

// TestKeysDiffer makes every key of a seed: those of other bytes are others.
func TestKeysDiffer(t *testing.T) {
	table, seed := sha.NewTable(), text(32)
	made := make(map[string][2]int)
	for a := range 256 {
		for b := range 256 {
			k := string(Key(table, seed, a, b))
			if was, ok := made[k]; ok || len(k) != 32 {
				t.Fatalf("P3.2: Key(%d, %d) is that of %v, %d bytes", a, b, was, len(k))
			}
			made[k] = [2]int{a, b}
		}
	}
}

// TestHandedInStays looks at what was handed in, and at what lies behind it.
func TestHandedInStays(t *testing.T) {
	table := sha.NewTable()
	for _, k := range keySizes() {
		for _, n := range textSizes() {
			keyRoom, room := keyOf(k+100), text(n+100)
			keyWas, was := bytes.Clone(keyRoom), bytes.Clone(room)
			key, b := keyRoom[:k], room[:n]
			sum, made := want(key, b), want(key, []byte{1, 2})
			m := New(table, key)
			m.Write(b)
			if !bytes.Equal(m.Sum(), sum) || !bytes.Equal(One(table, key, b), sum) || !bytes.Equal(Key(table, key, 1, 2), made) {
				t.Errorf("P3.3: a key of %d bytes, a text of %d: what lies behind them is read", k, n)
			}
			Equal(key, b)
			Equal(b, bytes.Clone(b))
			if !bytes.Equal(keyRoom, keyWas) || !bytes.Equal(room, was) {
				t.Errorf("P3.3: a key of %d bytes, a text of %d were changed, or what lies behind them", k, n)
			}
		}
	}
}

// TestHandedInIsNotKept spoils the key behind New, and each part behind its
// Write.
func TestHandedInIsNotKept(t *testing.T) {
	table := sha.NewTable()
	for _, k := range keySizes() {
		for _, n := range textSizes() {
			key, b := keyOf(k), text(2*n)
			m := New(table, key)
			spoil(key)
			for _, p := range [][]byte{b[:n], b[n:]} {
				part := bytes.Clone(p)
				m.Write(part)
				spoil(part)
				m.Sum()
			}
			if got := m.Sum(); !bytes.Equal(got, want(keyOf(k), b)) {
				t.Errorf("P3.3: a key of %d bytes, twice %d bytes, spoiled: %x", k, n, got)
			}
		}
	}
}

// spoil writes over b, and over its spare room.
func spoil(b []byte) {
	b = b[:cap(b)]
	for i := range b {
		b[i] ^= 0xff
	}
}

func TestAnswersAreNew(t *testing.T) {
	table, key, b := sha.NewTable(), keyOf(70), text(100)
	m := New(table, key)
	m.Write(b)
	pair := []byte{3, 4}
	for _, c := range []struct {
		name string
		sum  func() []byte
		want []byte
	}{
		{"Sum", m.Sum, want(key, b)},
		{"One", func() []byte { return One(table, key, b) }, want(key, b)},
		{"Key", func() []byte { return Key(table, key, 3, 4) }, want(key, pair)},
	} {
		kept := c.sum()
		if len(kept) != 32 {
			t.Fatalf("P3.1: %s of %d bytes", c.name, len(kept))
		}
		spoil(c.sum())
		if !bytes.Equal(kept, c.want) || !bytes.Equal(c.sum(), c.want) {
			t.Errorf("P3.3: what %s answers is not new", c.name)
		}
	}
	m.Write(b)
	if got := m.Sum(); !bytes.Equal(got, want(key, append(bytes.Clone(b), b...))) {
		t.Errorf("P3.3: a spoiled answer shows in what is written behind: %x", got)
	}
}

// TestAnswerAsArgument hands in what was answered: a sum as a key, as a text
// and as both at once.
func TestAnswerAsArgument(t *testing.T) {
	table := sha.NewTable()
	m := New(table, text(5))
	sum := m.Sum()
	m.Write(sum)
	if got := m.Sum(); !bytes.Equal(got, want(text(5), want(text(5), nil))) {
		t.Errorf("P3.3: its own sum written: %x", got)
	}
	if got := One(table, sum, sum); !bytes.Equal(got, want(sum, sum)) || !bytes.Equal(sum, want(text(5), nil)) {
		t.Errorf("P3.3: the same bytes as key and text: %x", got)
	}
}

// TestSideBySide writes to two by turns: they share the Table alone.
func TestSideBySide(t *testing.T) {
	table := sha.NewTable()
	one, other := New(table, keyOf(10)), New(table, keyOf(80))
	b, c := text(300), text(299)
	for i := 0; i < 290; i += 29 {
		one.Write(b[i : i+29])
		other.Write(c[i : i+29])
		one.Sum()
	}
	if !bytes.Equal(one.Sum(), want(keyOf(10), b[:290])) || !bytes.Equal(other.Sum(), want(keyOf(80), c[:290])) {
		t.Error("P3.1: two side by side")
	}
}

// TestFromAnywhere asks a Table that nobody asked yet from many at once.
func TestFromAnywhere(t *testing.T) {
	table := sha.NewTable()
	var all sync.WaitGroup
	for i := range 16 {
		all.Go(func() {
			key, b := keyOf(60+i), text(100+i)
			if got := One(table, key, b); !bytes.Equal(got, want(key, b)) {
				t.Errorf("P3.1: from many at once, %d: %x", i, got)
			}
		})
	}
	all.Wait()
}
