package num

import (
	"math"
	"math/bits"
	"testing"

	"counterfoil/api"
)

const (
	most = api.MaxAmount
	last = api.MaxTick
)

// edges are the numbers that the chapter names, their neighbours, and some
// whose sums or products come out just at a bound or wrap back into range.
func edges() []int {
	return []int{
		math.MinInt, math.MinInt + 1, -most - 1, -most, -last, -7, -2, -1,
		0, 1, 2, 3, 4, 5, 7, 8, 1000, 1<<20 - 1, 1 << 20, 1<<20 + 1,
		1<<31 - 1, 1 << 31, 1<<31 + 1, 1 << 32, 1<<32 + 1, 3037000500,
		last/2 - 1, last / 2, last/2 + 1, last - 1, last, last + 1, last + 2,
		most/3 - 1, most / 3, most/3 + 1, most/2 - 1, most / 2, most/2 + 1,
		most - 2, most - 1, most, most + 1, most + 2, math.MaxInt - 1, math.MaxInt,
	}
}

// bounded is what a call asks for whose exact outcome is hi * 2^64 + lo.
func bounded(hi, lo uint64, bound int) (int, api.Errno) {
	if hi != 0 || lo > uint64(bound) {
		return 0, api.ErrRange
	}
	return int(lo), api.OK
}

func isAmount(n int) bool { return n >= 0 && uint64(n) <= 1<<62 }

func isTick(n int) bool { return n >= 0 && uint64(n) <= 1<<40 }

func wantAdd(a, b int) (int, api.Errno) {
	if !isAmount(a) || !isAmount(b) {
		return 0, api.ErrRange
	}
	lo, hi := bits.Add64(uint64(a), uint64(b), 0)
	return bounded(hi, lo, most)
}

func wantSub(a, b int) (int, api.Errno) {
	if !isAmount(a) || !isAmount(b) {
		return 0, api.ErrRange
	}
	lo, borrow := bits.Sub64(uint64(a), uint64(b), 0)
	return bounded(borrow, lo, most)
}

func wantMul(a, b int) (int, api.Errno) {
	if !isAmount(a) || !isAmount(b) {
		return 0, api.ErrRange
	}
	hi, lo := bits.Mul64(uint64(a), uint64(b))
	return bounded(hi, lo, most)
}

func wantAfter(t, d int) (int, api.Errno) {
	if !isTick(t) || !isTick(d) {
		return 0, api.ErrRange
	}
	lo, hi := bits.Add64(uint64(t), uint64(d), 0)
	return bounded(hi, lo, last)
}

// TestLimits holds the limits by their values: the other tests lean on api's.
func TestLimits(t *testing.T) {
	if api.MaxAmount != 4611686018427387904 || api.MaxTick != 1099511627776 || api.ErrRange != 1 || api.OK != 0 {
		t.Error("the limits or the numbers of api are others")
	}
}

func TestAmount(t *testing.T) {
	for _, c := range []struct {
		n    int
		want bool
	}{
		{0, true}, {1, true}, {42, true}, {most - 1, true}, {most, true},
		{-1, false}, {most + 1, false}, {-most, false}, {math.MaxInt, false}, {math.MinInt, false},
	} {
		if got := Amount(c.n); got != c.want {
			t.Errorf("P1.1: Amount(%d): %v", c.n, got)
		}
	}
}

func TestTick(t *testing.T) {
	for _, c := range []struct {
		n    int
		want bool
	}{
		{0, true}, {1, true}, {42, true}, {last - 1, true}, {last, true},
		{-1, false}, {last + 1, false}, {-last, false}, {most, false}, {math.MaxInt, false}, {math.MinInt, false},
	} {
		if got := Tick(c.n); got != c.want {
			t.Errorf("P1.2: Tick(%d): %v", c.n, got)
		}
	}
}

// TestPairs asks every two of the edges, each in either place, and holds the
// answers against sums and products of 128 bits.
func TestPairs(t *testing.T) {
	type call func(a, b int) (int, api.Errno)
	for _, c := range []struct {
		name      string
		got, want call
	}{
		{"P1.1: Add", Add, wantAdd},
		{"P1.1: Sub", Sub, wantSub},
		{"P1.1: Mul", Mul, wantMul},
		{"P1.1: Sum", func(a, b int) (int, api.Errno) { return Sum(a, b) }, wantAdd},
		{"P1.2: After", After, wantAfter},
	} {
		for _, a := range edges() {
			for _, b := range edges() {
				n, e := c.got(a, b)
				if w, we := c.want(a, b); n != w || e != we {
					t.Errorf("%s(%d, %d): %d, %d; want %d, %d", c.name, a, b, n, e, w, we)
				}
			}
		}
	}
}

// TestWritten holds some answers as they are read off the chapter.
func TestWritten(t *testing.T) {
	type call func(a, b int) (int, api.Errno)
	for i, c := range []struct {
		do   call
		a, b int
		n    int
		e    api.Errno
	}{
		{Add, 2, 3, 5, api.OK},
		{Add, 0, 0, 0, api.OK},
		{Add, most, 0, most, api.OK},
		{Add, 0, most, most, api.OK},
		{Add, most, 1, 0, api.ErrRange},
		{Add, most, most, 0, api.ErrRange},
		{Add, most + 1, -1, 0, api.ErrRange},
		{Add, -1, 1, 0, api.ErrRange},
		{Add, math.MaxInt, 1, 0, api.ErrRange},
		{Add, math.MinInt, math.MinInt, 0, api.ErrRange},
		{Sub, 1, 2, 0, api.ErrRange},
		{Sub, 2, 1, 1, api.OK},
		{Sub, 7, 7, 0, api.OK},
		{Sub, most, most, 0, api.OK},
		{Sub, 0, most, 0, api.ErrRange},
		{Sub, most + 1, 1, 0, api.ErrRange},
		{Sub, most + 1, most + 1, 0, api.ErrRange},
		{Sub, 0, -1, 0, api.ErrRange},
		{Sub, -1, -1, 0, api.ErrRange},
		{Sub, 0, math.MinInt, 0, api.ErrRange},
		{Sub, math.MinInt, 1, 0, api.ErrRange},
		{Mul, 6, 7, 42, api.OK},
		{Mul, most, 1, most, api.OK},
		{Mul, 1, most, most, api.OK},
		{Mul, most, 0, 0, api.OK},
		{Mul, 0, most, 0, api.OK},
		{Mul, 2, most / 2, most, api.OK},
		{Mul, most/2 + 1, 2, 0, api.ErrRange},
		{Mul, 4, most, 0, api.ErrRange},
		{Mul, most, most, 0, api.ErrRange},
		{Mul, most + 1, 0, 0, api.ErrRange},
		{Mul, 0, most + 1, 0, api.ErrRange},
		{Mul, 0, -1, 0, api.ErrRange},
		{Mul, -1, 0, 0, api.ErrRange},
		{Mul, -2, -3, 0, api.ErrRange},
		{Mul, math.MinInt, -1, 0, api.ErrRange},
		{After, 5, 7, 12, api.OK},
		{After, last, 0, last, api.OK},
		{After, 0, last, last, api.OK},
		{After, last / 2, last / 2, last, api.OK},
		{After, last, 1, 0, api.ErrRange},
		{After, last, last, 0, api.ErrRange},
		{After, last + 1, 0, 0, api.ErrRange},
		{After, last + 1, -1, 0, api.ErrRange},
		{After, -1, last + 1, 0, api.ErrRange},
		{After, -1, 1, 0, api.ErrRange},
		{After, 1, -1, 0, api.ErrRange},
		{After, math.MaxInt, math.MaxInt, 0, api.ErrRange},
		{After, math.MinInt, math.MinInt, 0, api.ErrRange},
	} {
		if n, e := c.do(c.a, c.b); n != c.n || e != c.e {
			t.Errorf("P1.1, P1.2: case %d: (%d, %d): %d, %d; want %d, %d", i, c.a, c.b, n, e, c.n, c.e)
		}
	}
}

func TestSum(t *testing.T) {
	for i, c := range []struct {
		l []int
		n int
		e api.Errno
	}{
		{nil, 0, api.OK},
		{[]int{}, 0, api.OK},
		{[]int{0}, 0, api.OK},
		{[]int{9}, 9, api.OK},
		{[]int{1, 2, 3, 4}, 10, api.OK},
		{[]int{most}, most, api.OK},
		{[]int{0, most, 0, 0}, most, api.OK},
		{[]int{most / 2, most/2 - 1, 1}, most, api.OK},
		{[]int{most / 2, most/2 - 1, 1, 1}, 0, api.ErrRange},
		{[]int{most, 1}, 0, api.ErrRange},
		{[]int{-1}, 0, api.ErrRange},
		{[]int{5, -1}, 0, api.ErrRange},
		{[]int{-1, 5}, 0, api.ErrRange},
		{[]int{1, 2, -1, 3}, 0, api.ErrRange},
		{[]int{most, 1, -1}, 0, api.ErrRange},
		{[]int{most + 1}, 0, api.ErrRange},
		{[]int{0, 0, most + 1}, 0, api.ErrRange},
		{[]int{math.MaxInt}, 0, api.ErrRange},
		{[]int{math.MinInt}, 0, api.ErrRange},
		{[]int{math.MaxInt, math.MinInt}, 0, api.ErrRange},
		{[]int{most, most, math.MinInt}, 0, api.ErrRange},
		{[]int{most, most, most, most}, 0, api.ErrRange},
		{[]int{most, most, most, most, 5}, 0, api.ErrRange},
	} {
		if n, e := Sum(c.l...); n != c.n || e != c.e {
			t.Errorf("P1.1: Sum, case %d: %d, %d; want %d, %d", i, n, e, c.n, c.e)
		}
	}
}

func TestSumLeavesItsList(t *testing.T) {
	room := []int{1, 2, 3, -9, most}
	if n, e := Sum(room[:3]...); n != 6 || e != api.OK {
		t.Errorf("P1.1: Sum of a list with spare room: %d, %d", n, e)
	}
	for i, want := range []int{1, 2, 3, -9, most} {
		if room[i] != want {
			t.Errorf("P0.4: Sum wrote %d at %d", room[i], i)
		}
	}
}

func TestSubTakesBackAdd(t *testing.T) {
	for _, a := range edges() {
		for _, b := range edges() {
			s, e := Add(a, b)
			if e != api.OK {
				continue
			}
			if n, e := Sub(s, b); n != a || e != api.OK {
				t.Errorf("P1.3: Sub(Add(%d, %d), %d): %d, %d", a, b, b, n, e)
			}
		}
	}
}
