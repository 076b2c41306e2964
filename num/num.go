// Package num is layer 1: integer functions that are exact for all arguments (chapter 1).
package num

import (
	"cmp"
	"math"
	"math/bits"
	"slices"
)

// maxRoot is the greatest integer whose square is an int.
const maxRoot = 3037000499

// Clamp returns lo if x is below lo, otherwise hi if x is above hi, otherwise x.
func Clamp(x, lo, hi int) int {
	if x < lo {
		return lo
	}
	if x > hi {
		return hi
	}
	return x
}

// FloorDiv returns a / b rounded toward minus infinity, or 0 unless b is above 0.
func FloorDiv(a, b int) int {
	if b <= 0 {
		return 0
	}
	q := a / b
	if a%b < 0 {
		q--
	}
	return q
}

// RoundDiv returns the greatest integer that is at most a/b + 1/2, or 0 unless b is above 0.
func RoundDiv(a, b int) int {
	if b <= 0 {
		return 0
	}
	q, r := a/b, a%b
	if r < 0 {
		q, r = q-1, r+b
	}
	// r >= b-r says 2r >= b without overflow.
	if r >= b-r {
		q++
	}
	return q
}

// Sqrt returns the greatest r with r * r at most n, and 0 for a negative n.
func Sqrt(n int) int {
	lo, hi := 0, maxRoot
search:
	for lo < hi {
		mid := (lo + hi + 1) / 2
		if mid*mid > n {
			hi = mid - 1
			continue search
		}
		lo = mid
	}
	return lo
}

// Add returns the sum and true if it is an int.
func Add(a, b int) (int, bool) {
	if b > 0 && a > math.MaxInt-b || b < 0 && a < math.MinInt-b {
		return 0, false
	}
	return a + b, true
}

// MulDiv returns a * b / c, rounded toward minus infinity, and true if c is above 0 and the result is an int.
func MulDiv(a, b, c int) (int, bool) {
	if c <= 0 {
		return 0, false
	}
	p := multiply(a, b)
	// A first digit of at least c means a quotient of at least 2^64, for which Div64 would panic.
	if p.digits[0] >= uint64(c) {
		return 0, false
	}
	q, r := bits.Div64(p.digits[0], p.digits[1], uint64(c))
	if p.sign < 0 {
		return floorNegative(q, r)
	}
	if q > math.MaxInt {
		return 0, false
	}
	return int(q), true
}

// CmpMul compares the exact products a * b and c * d.
func CmpMul(a, b, c, d int) int {
	p, q := multiply(a, b), multiply(c, d)
	if p.sign != q.sign {
		return cmp.Compare(p.sign, q.sign)
	}
	return p.sign * slices.Compare(p.digits[:], q.digits[:])
}

// product is an exact product: its sign, and its magnitude as digits of base 2^64, the most significant first.
type product struct {
	sign   int
	digits [2]uint64
}

func multiply(a, b int) product {
	hi, lo := bits.Mul64(magnitude(a), magnitude(b))
	return product{cmp.Compare(a, 0) * cmp.Compare(b, 0), [2]uint64{hi, lo}}
}

func magnitude(n int) uint64 {
	if n < 0 {
		return -uint64(n) // -n would overflow for the smallest int
	}
	return uint64(n)
}

// floorNegative returns the negated quotient q, rounded toward minus infinity if it has a remainder r.
func floorNegative(q, r uint64) (int, bool) {
	const most = 1 << 63
	if q > most || q == most && r > 0 {
		return 0, false
	}
	if r > 0 {
		q++
	}
	return int(-q), true
}
