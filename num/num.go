// Package num: numbers of 32 bits, from -2^31 to 2^31 - 1: see doc/01-num.md.
package num

import "custodian/api"

// Wrap answers the number from which n differs by a multiple of 2^32.
func Wrap(n int) int { return int(int32(n)) }

// The others wrap what comes in first: then no sum, difference or product of two goes over an int's 64 bits.

// Add answers the sum of a and b, wrapped.
func Add(a, b int) int { return Wrap(Wrap(a) + Wrap(b)) }

// Sub answers a less b, wrapped.
func Sub(a, b int) int { return Wrap(Wrap(a) - Wrap(b)) }

// Mul answers the product of a and b, wrapped.
func Mul(a, b int) int { return Wrap(Wrap(a) * Wrap(b)) }

// Div answers the whole part of a divided by b, towards 0, or ErrZero if b is 0.
func Div(a, b int) (int, api.Errno) {
	by := Wrap(b)
	if by == 0 {
		return 0, api.ErrZero
	}
	// -2^31 by -1 is the one quotient that is no number before it is wrapped.
	return Wrap(Wrap(a) / by), api.OK
}

// Less answers 1 if a is less than b, and 0 otherwise.
func Less(a, b int) int {
	if Wrap(a) < Wrap(b) {
		return 1
	}
	return 0
}
