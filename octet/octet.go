// Package octet is layer 1: see shared/doc/01-octet.md.
package octet

import (
	"bytes"

	"fairlead/api"
)

// mostRounded is the greatest length that Round takes: beyond it, a sum might overflow.
const mostRounded = 1 << 62

// Get is the number that size bytes of b encode, from offset at on, the highest byte first.
func Get(b []byte, at, size int) (uint64, api.Errno) {
	if !isSize(size) || !inside(b, at, size) {
		return 0, api.ErrArg
	}
	var x uint64
	for i := range size {
		x = x<<8 | uint64(b[at+i])
	}
	return x, api.OK
}

// Put is b followed by size bytes that encode x, the highest byte first; b alone if size is none.
func Put(b []byte, x uint64, size int) []byte {
	if !isSize(size) {
		return bytes.Clone(b)
	}
	out := make([]byte, len(b)+size)
	copy(out, b)
	for i := range size {
		out[len(out)-1-i] = byte(x >> (8 * i))
	}
	return out
}

// Cut is the n bytes of b from offset at on, if it has them.
func Cut(b []byte, at, n int) ([]byte, bool) {
	if !inside(b, at, n) {
		return nil, false
	}
	return bytes.Clone(b[at : at+n]), true
}

// Round is the smallest multiple of 4 that is not less than n; 0 if n is out of bounds.
func Round(n int) int {
	if n < 0 || n > mostRounded {
		return 0
	}
	return (n + 3) / 4 * 4
}

// Pad is b followed by zero bytes up to a multiple of 4.
func Pad(b []byte) []byte {
	out := make([]byte, Round(len(b)))
	copy(out, b)
	return out
}

func isSize(size int) bool {
	return size == 1 || size == 2 || size == 4 || size == 8
}

// inside says whether b has n bytes from offset at on. It subtracts, since at+n might overflow.
func inside(b []byte, at, n int) bool {
	return at >= 0 && n >= 0 && at <= len(b) && n <= len(b)-at
}
