// Package num is layer 1: numbers of 256 bits, as four parts of 64 bits, the lowest first.
package num

import (
	"math/bits"

	"truce/api"
)

const (
	parts     = 4
	partBits  = 64
	partBytes = partBits / 8
	allBits   = parts * partBits
	allBytes  = parts * partBytes
)

// Of is a number of a small one.
func Of(n uint64) api.U { return api.U{n} }

// Add is a sum, modulo 2^256, and whether it went over.
func Add(a, b api.U) (api.U, bool) {
	var carry uint64
	for i := range parts {
		a[i], carry = bits.Add64(a[i], b[i], carry)
	}
	return a, carry != 0
}

// Sub is a difference, modulo 2^256, and whether it went under.
func Sub(a, b api.U) (api.U, bool) {
	var borrow uint64
	for i := range parts {
		a[i], borrow = bits.Sub64(a[i], b[i], borrow)
	}
	return a, borrow != 0
}

// Cmp is -1, 0 or 1: a is less than b, the same, or more.
func Cmp(a, b api.U) int {
	for i := range parts {
		// The highest part in which they differ decides.
		high := parts - 1 - i
		if a[high] < b[high] {
			return -1
		}
		if a[high] > b[high] {
			return 1
		}
	}
	return 0
}

// And is what both have.
func And(a, b api.U) api.U {
	for i := range parts {
		a[i] &= b[i]
	}
	return a
}

// Or is what one of both has.
func Or(a, b api.U) api.U {
	for i := range parts {
		a[i] |= b[i]
	}
	return a
}

// Xor is what just one of both has.
func Xor(a, b api.U) api.U {
	for i := range parts {
		a[i] ^= b[i]
	}
	return a
}

// Not is what a number has not.
func Not(a api.U) api.U {
	for i := range parts {
		a[i] = ^a[i]
	}
	return a
}

// Shl is a number shifted up.
func Shl(a api.U, n uint64) api.U {
	var out api.U
	if n >= allBits {
		return out
	}
	whole, rest := int(n/partBits), n%partBits
	for i := range parts - whole {
		out[i+whole] = a[i] << rest
		if i > 0 {
			// At rest 0 this shifts by 64, which leaves nothing, as it must.
			out[i+whole] |= a[i-1] >> (partBits - rest)
		}
	}
	return out
}

// Shr is a number shifted down.
func Shr(a api.U, n uint64) api.U {
	var out api.U
	if n >= allBits {
		return out
	}
	whole, rest := int(n/partBits), n%partBits
	for i := range parts - whole {
		out[i] = a[i+whole] >> rest
		if i+whole+1 < parts {
			// At rest 0 this shifts by 64, which leaves nothing, as it must.
			out[i] |= a[i+whole+1] << (partBits - rest)
		}
	}
	return out
}

// Bits is how many bits a number has.
func Bits(a api.U) int {
	for i := range parts {
		high := parts - 1 - i
		if a[high] != 0 {
			return high*partBits + bits.Len64(a[high])
		}
	}
	return 0
}

// Bytes is a number's 32 bytes, the highest first.
func Bytes(a api.U) string {
	var out [allBytes]byte
	for i := range allBytes {
		out[allBytes-1-i] = byte(a[i/partBytes] >> (i % partBytes * 8))
	}
	return string(out[:])
}

// Read is the number of at most 32 bytes, the highest first.
func Read(s string) (api.U, api.Errno) {
	var out api.U
	if len(s) > allBytes {
		return out, api.ErrRange
	}
	for i := range len(s) {
		out[i/partBytes] |= uint64(s[len(s)-1-i]) << (i % partBytes * 8)
	}
	return out, api.OK
}
