// Package num: sums that are checked (chapter 1).
package num

import "counterfoil/api"

// Amount tells if n is an amount: 0 to api.MaxAmount.
func Amount(n int) bool { return 0 <= n && n <= api.MaxAmount }

// Add answers a + b, or api.ErrRange if a, b or a + b is no amount.
func Add(a, b int) (int, api.Errno) {
	// Asked by what is left beside b: two greatest amounts together would wrap.
	if !amounts(a, b) || a > api.MaxAmount-b {
		return 0, api.ErrRange
	}
	return a + b, api.OK
}

// Sub answers a less b, or api.ErrRange if a, b or a - b is no amount.
func Sub(a, b int) (int, api.Errno) {
	if !amounts(a, b) || a < b {
		return 0, api.ErrRange
	}
	return a - b, api.OK
}

// Mul answers a times b, or api.ErrRange if a, b or the product is no amount.
func Mul(a, b int) (int, api.Errno) {
	if !amounts(a, b) {
		return 0, api.ErrRange
	}
	// Asked by a quotient: a product out of range can wrap to an amount.
	if b > 0 && a > api.MaxAmount/b {
		return 0, api.ErrRange
	}
	return a * b, api.OK
}

// Sum answers the sum of all of l, 0 of none, or api.ErrRange if one of them,
// or the sum of some from the first on, is no amount.
func Sum(l ...int) (int, api.Errno) {
	total := 0
	for _, n := range l {
		next, e := Add(total, n)
		if e != api.OK {
			return 0, e
		}
		total = next
	}
	return total, api.OK
}

// Tick tells if n is a tick: 0 to api.MaxTick.
func Tick(n int) bool { return 0 <= n && n <= api.MaxTick }

// After answers the tick d behind t, or api.ErrRange if t, d or t + d is no tick.
func After(t, d int) (int, api.Errno) {
	if !Tick(t) || !Tick(d) || !Tick(t+d) {
		return 0, api.ErrRange
	}
	return t + d, api.OK
}

func amounts(a, b int) bool { return Amount(a) && Amount(b) }
