// Package wide is layer 1: integers of 128 bits, for sums and products of ints that must not wrap around.
package wide

import (
	"math/bits"

	"sondage/api"
)

const (
	least = -1 << 63
	most  = 1<<63 - 1
)

// Of returns an int as a wide number.
func Of(n int) api.Wide {
	// The shift copies the sign into all bits of the upper half.
	return api.Wide{Hi: int64(n) >> 63, Lo: uint64(n)}
}

// Add returns the sum, modulo 2^128.
func Add(a, b api.Wide) api.Wide {
	lo, carry := bits.Add64(a.Lo, b.Lo, 0)
	hi, _ := bits.Add64(uint64(a.Hi), uint64(b.Hi), carry)
	return api.Wide{Hi: int64(hi), Lo: lo}
}

// Sub returns the difference, modulo 2^128.
func Sub(a, b api.Wide) api.Wide {
	lo, borrow := bits.Sub64(a.Lo, b.Lo, 0)
	hi, _ := bits.Sub64(uint64(a.Hi), uint64(b.Hi), borrow)
	return api.Wide{Hi: int64(hi), Lo: lo}
}

// Neg returns the number on the other side of 0.
func Neg(a api.Wide) api.Wide { return Sub(api.Wide{}, a) }

// Mul returns the exact product.
func Mul(a, b int) api.Wide {
	hi, lo := bits.Mul64(uint64(a), uint64(b))
	// A negative factor was read as one that is greater by 2^64.
	if a < 0 {
		hi -= uint64(b)
	}
	if b < 0 {
		hi -= uint64(a)
	}
	return api.Wide{Hi: int64(hi), Lo: lo}
}

// Cmp returns -1, 0 or 1 if a is less than, equal to, or greater than b.
func Cmp(a, b api.Wide) int {
	if a == b {
		return 0
	}
	if a.Hi < b.Hi || a.Hi == b.Hi && a.Lo < b.Lo {
		return -1
	}
	return 1
}

// Sign returns -1, 0 or 1 if a is negative, 0 or positive.
func Sign(a api.Wide) int { return Cmp(a, api.Wide{}) }

// Int returns a as an int and true, or 0 and false if it is not an int.
func Int(a api.Wide) (int, bool) {
	if n := Low(a); Of(n) == a {
		return n, true
	}
	return 0, false
}

// Low returns the int that is congruent to a modulo 2^64.
func Low(a api.Wide) int { return int(a.Lo) }

// Clamp returns the int nearest to a.
func Clamp(a api.Wide) int {
	if n, ok := Int(a); ok {
		return n
	}
	if Sign(a) < 0 {
		return least
	}
	return most
}

// Min returns the smallest of a and l.
func Min(a api.Wide, l ...api.Wide) api.Wide {
	for _, b := range l {
		if Cmp(b, a) < 0 {
			a = b
		}
	}
	return a
}

// Max returns the largest of a and l.
func Max(a api.Wide, l ...api.Wide) api.Wide {
	for _, b := range l {
		if Cmp(b, a) > 0 {
			a = b
		}
	}
	return a
}
