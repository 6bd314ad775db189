// Package limb is layer 1: see shared/doc/01-limb.md.
package limb

import "math/bits"

func Add(x, y, c uint32) (sum, carry uint32) {
	s := uint64(x) + uint64(y) + uint64(c)
	return uint32(s), uint32(s >> 32)
}

func Sub(x, y, b uint32) (diff, borrow uint32) {
	d := int64(x) - int64(y) - int64(b)
	// A signed shift rounds down, so each 2^32 below 0 counts as soon as it is begun.
	return uint32(d), uint32(-(d >> 32))
}

func Mul(x, y, c, d uint32) (hi, lo uint32) {
	// At the greatest words this is just 2^64 - 1, so it never wraps round.
	p := uint64(x)*uint64(y) + uint64(c) + uint64(d)
	return uint32(p >> 32), uint32(p)
}

func Div(hi, lo, y uint32) (q, r uint32, ok bool) {
	// From hi = y on the quotient is no word any more; and no hi is below 0, so this keeps y = 0 out, too.
	if hi >= y {
		return 0, 0, false
	}
	n := uint64(hi)<<32 | uint64(lo)
	d := uint64(y)
	return uint32(n / d), uint32(n % d), true
}

func Len(x uint32) int {
	return bits.Len32(x)
}

func Zeros(x uint32) int {
	return bits.TrailingZeros32(x)
}
