// Package num is layer 1: see shared/doc/01-num.md.
package num

import "math/bits"

// Max is the bound of absolute values.
const Max = 1 << 50

// Add returns a + b, and whether a, b and the sum are in range.
func Add(a, b int) (int, bool) {
	if !inRange(a, b) {
		return 0, false
	}
	return bounded(a + b)
}

// Sub returns a - b, and whether a, b and the difference are in range.
func Sub(a, b int) (int, bool) {
	if !inRange(a, b) {
		return 0, false
	}
	return bounded(a - b)
}

// Mul returns a * b, and whether a, b and the product are in range.
func Mul(a, b int) (int, bool) {
	return MulDiv(a, b, 1)
}

// FloorDiv returns a / b, rounded down, for b of at least 1.
func FloorDiv(a, b int) (int, bool) {
	m, ok := Mod(a, b)
	if !ok {
		return 0, false
	}
	return (a - m) / b, true
}

// CeilDiv returns a / b, rounded up, for b of at least 1.
func CeilDiv(a, b int) (int, bool) {
	// -a is in range exactly if a is: the least int is its own negative.
	down, ok := FloorDiv(-a, b)
	return -down, ok
}

// Mod returns a modulo b, which is from 0 to b - 1, for b of at least 1.
func Mod(a, b int) (int, bool) {
	if !inRange(a, b) || b < 1 {
		return 0, false
	}
	m := a % b
	if m < 0 {
		m += b
	}
	return m, true
}

// MulDiv returns a * b / c, rounded down, for c of at least 1; a * b may be out of range.
func MulDiv(a, b, c int) (int, bool) {
	if !inRange(a, b, c) || c < 1 {
		return 0, false
	}
	high, low := bits.Mul64(magnitude(a), magnitude(b))
	// Div64 panics if the quotient exceeds 64 bits.
	if high >= uint64(c) {
		return 0, false
	}
	quotient, rest := bits.Div64(high, low, uint64(c))
	// This comes before any rounding, which would wrap the greatest quotient around to 0.
	if quotient > Max {
		return 0, false
	}
	result := int(quotient)
	if (a < 0) != (b < 0) {
		result = -result
		if rest > 0 {
			result--
		}
	}
	return bounded(result)
}

// Gcd returns the greatest common divisor of a and b, or 0 if one of them is out of range.
func Gcd(a, b int) int {
	if !inRange(a, b) {
		return 0
	}
	x, y := magnitude(a), magnitude(b)
	if x == 0 || y == 0 {
		return int(x + y)
	}
	twos := bits.TrailingZeros64(x | y)
	x >>= bits.TrailingZeros64(x)
reduce:
	for {
		y >>= bits.TrailingZeros64(y)
		switch {
		case x == y:
			break reduce
		case x > y:
			x, y = y, x
		}
		// Both are odd, so the difference is even and the next shift makes progress.
		y -= x
	}
	return int(x << twos)
}

// Lcm returns the least common multiple of the elements of l, all of which must be at least 1.
func Lcm(l []int) (int, bool) {
	if !inRange(l...) {
		return 0, false
	}
	least := 1
	include := func(n int) bool {
		if n < 1 {
			return false
		}
		multiple, ok := Mul(least, n/Gcd(least, n))
		least = multiple
		return ok
	}
	for _, n := range l {
		if !include(n) {
			return 0, false
		}
	}
	return least, true
}

// inRange reports whether the absolute value of every number is at most Max.
func inRange(numbers ...int) bool {
	for _, n := range numbers {
		if n < -Max || n > Max {
			return false
		}
	}
	return true
}

// bounded returns n and true, or 0 and false if n is out of range.
func bounded(n int) (int, bool) {
	if !inRange(n) {
		return 0, false
	}
	return n, true
}

// magnitude returns the absolute value of a number in range.
func magnitude(n int) uint64 {
	return uint64(max(n, -n))
}
