// Package octet is layer 1: see shared/doc/01-octet.md.
package octet

import (
	"bytes"
	"math"

	"capstan/api"
)

const (
	widest  = 8     // bytes of an integer
	prefix  = 2     // bytes of the length of a byte string
	longest = 65535 // bytes of a byte string: what fits the prefix
)

type signed interface{ ~int | ~int64 }

type unsigned interface{ ~uint16 | ~uint64 }

type integer interface{ signed | unsigned }

// split returns the lowest bytes of n, as many as width, the least significant one first.
// The shift of a signed n repeats its sign, so that a negative one comes out in two's complement.
func split[T integer](n T, width int) []byte {
	b := make([]byte, width)
	for i := range b {
		b[i] = byte(n)
		n >>= 8
	}
	return b
}

// join returns the integer of which split would produce b.
func join[T integer](b []byte) T {
	var n T
	for i := len(b) - 1; i >= 0; i-- {
		n = n<<8 | T(b[i])
	}
	return n
}

// settle is deferred by all that decodes: whichever way a reader ends, nothing stands beside an error.
func settle[T any](result *T, next *int, e *api.Errno) {
	if *e != api.OK {
		var zero T
		*result, *next = zero, 0
	}
}

// cut returns the part of b that begins at offset at, which is b's own memory, and the offset behind it.
func cut(b []byte, at, width int) (part []byte, next int, e api.Errno) {
	if at < 0 || at > len(b) {
		return nil, 0, api.ErrArg
	}
	// Compared by a difference, since at + width may wrap around.
	if width > len(b)-at {
		return nil, 0, api.ErrShort
	}
	return b[at : at+width], at + width, api.OK
}

// measured tells whether integers of this width are encoded at all.
func measured(width int) bool { return 1 <= width && width <= widest }

// Put returns the encoding of n in the given width: P1.1.
func Put(width, n int) ([]byte, api.Errno) {
	if !measured(width) {
		return nil, api.ErrArg
	}
	if n < 0 || n>>(8*width) > 0 {
		return nil, api.ErrWide
	}
	return split(n, width), api.OK
}

// Get returns the integer that is encoded at offset at, and the offset behind it: P1.2.
func Get(b []byte, at, width int) (n, next int, e api.Errno) {
	defer settle(&n, &next, &e)
	if !measured(width) {
		e = api.ErrArg
		return
	}
	var part []byte
	part, next, e = cut(b, at, width)
	// Joined without a sign, so that the highest bit shows as size.
	whole := join[uint64](part)
	if whole > math.MaxInt {
		e = api.ErrWide
	}
	n = int(whole)
	return
}

// Signed returns the encoding of the signed integer n: P1.1.
func Signed(n int64) []byte { return split(n, widest) }

// GetSigned returns the signed integer that is encoded at offset at, and the offset behind it: P1.2.
func GetSigned(b []byte, at int) (n int64, next int, e api.Errno) {
	defer settle(&n, &next, &e)
	var part []byte
	part, next, e = cut(b, at, widest)
	n = join[int64](part)
	return
}

// Row returns the encoding of the byte string b: P1.1.
func Row(b []byte) ([]byte, api.Errno) {
	if len(b) > longest {
		return nil, api.ErrLong
	}
	return append(split(uint16(len(b)), prefix), b...), api.OK
}

// GetRow returns a copy of the byte string that is encoded at offset at, and the offset behind it: P1.2.
func GetRow(b []byte, at int) (row []byte, next int, e api.Errno) {
	defer settle(&row, &next, &e)
	var size, start int
	size, start, e = Get(b, at, prefix)
	if e != api.OK {
		return
	}
	row, next, e = cut(b, start, size)
	row = bytes.Clone(row)
	return
}
