// Package num is layer 1: numbers in bytes, and bits. See shared/doc/01-num.md.
package num

import (
	"bytes"

	"scupper/api"
)

// byteBits is how many bits a byte has.
const byteBits = 8

// Get16 is the number of two bytes at that place, or ErrShort.
func Get16(b []byte, at int) (uint16, api.Errno) {
	x, e := get(b, at, 2)
	return uint16(x), e
}

// Get32 is the number of four bytes at that place, or ErrShort.
func Get32(b []byte, at int) (uint32, api.Errno) {
	return get(b, at, 4)
}

// get takes a number of at most four bytes, the lowest first.
func get(b []byte, at, size int) (uint32, api.Errno) {
	// The place is taken from the length, since at+size may wrap round.
	if at < 0 || len(b)-at < size {
		return 0, api.ErrShort
	}
	x := uint32(0)
	for k := range size {
		x |= uint32(b[at+k]) << (byteBits * k)
	}
	return x, api.OK
}

// Put16 is the number's two bytes, the lowest first.
func Put16(x uint16) [2]byte {
	var b [2]byte
	for k := range len(b) {
		b[k] = byte(x >> (byteBits * k))
	}
	return b
}

// Put32 is the number's four bytes, the lowest first.
func Put32(x uint32) [4]byte {
	var b [4]byte
	for k := range len(b) {
		b[k] = byte(x >> (byteBits * k))
	}
	return b
}

// Bit tells whether bit i is 1, or ErrArg.
func Bit(b []byte, i int) (bool, api.Errno) {
	if !has(b, i) {
		return false, api.ErrArg
	}
	return isSet(b, i), api.OK
}

// With is a copy of b in which bit i is as on says, or ErrArg.
func With(b []byte, i int, on bool) ([]byte, api.Errno) {
	if !has(b, i) {
		return nil, api.ErrArg
	}
	c := bytes.Clone(b)
	if on {
		c[i/byteBits] |= mask(i)
	} else {
		c[i/byteBits] &^= mask(i)
	}
	return c, api.OK
}

// Count is how many of the first n bits are 1.
func Count(b []byte, n int) int {
	ones := 0
	for i := range bound(b, n) {
		if isSet(b, i) {
			ones++
		}
	}
	return ones
}

// First is the first bit from from on, of the first n, that is 0; -1 if there is none.
func First(b []byte, from, n int) int {
	from = max(from, 0)
	// A number below 0 is ranged over not at all: so it is if from lies behind the last bit.
	for k := range bound(b, n) - from {
		if !isSet(b, from+k) {
			return from + k
		}
	}
	return -1
}

func has(b []byte, i int) bool {
	return i >= 0 && i/byteBits < len(b)
}

// bound keeps n within the bits that there are; below 0 it stands for none.
func bound(b []byte, n int) int {
	return min(max(n, 0), byteBits*len(b))
}

// isSet asks of a bit that there is.
func isSet(b []byte, i int) bool {
	return b[i/byteBits]&mask(i) != 0
}

func mask(i int) byte {
	return 1 << (i % byteBits)
}
