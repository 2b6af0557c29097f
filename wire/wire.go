// Package wire encodes integers, byte strings and lists as byte sequences, and decodes them (layer 1, shared/doc/01-wire.md). Every value has exactly one encoding, and decoding accepts nothing else.
package wire

import "rivermark/api"

const (
	digitBits = 7              // bits of a digit
	more      = 1 << digitBits // added to each digit that another one follows
	maxDigits = 10             // digits of 64 bits
	maxTop    = 1              // the greatest tenth digit: of 64 bits, it is left one
)

// Int returns the encoding of an integer.
func Int(n int) []byte { return appendInt(nil, n) }

// GetInt decodes an integer at the beginning of a byte sequence.
func GetInt(b []byte) (int, int, api.Errno) {
	var z uint64
	used := 0
collect:
	for i, c := range b {
		z |= uint64(c%more) << (digitBits * i)
		switch {
		// A tenth byte of 128 or more ends no encoding either, so no byte after it is looked at.
		case i == maxDigits-1 && c > maxTop, i > 0 && c == 0:
			return 0, 0, api.ErrEncoding
		case c < more:
			used = i + 1
			break collect
		}
	}
	if used == 0 {
		return 0, 0, api.ErrTruncated
	}
	return unfold(z), used, api.OK
}

// Bytes returns the encoding of a byte string.
func Bytes(s string) []byte { return appendBytes(nil, s) }

// GetBytes decodes a byte string at the beginning of a byte sequence.
func GetBytes(b []byte) (string, int, api.Errno) {
	n, used, e := getLength(b, 1)
	if e != api.OK {
		return "", 0, e
	}
	return string(b[used : used+n]), used + n, api.OK
}

// Ints returns the encoding of a list of integers.
func Ints(l []int) []byte { return putList(l, appendInt) }

// GetInts decodes a list of integers at the beginning of a byte sequence.
func GetInts(b []byte) ([]int, int, api.Errno) { return getList(b, 1, GetInt) }

// Strings returns the encoding of a list of byte strings.
func Strings(l []string) []byte { return putList(l, appendBytes) }

// GetStrings decodes a list of byte strings at the beginning of a byte sequence.
func GetStrings(b []byte) ([]string, int, api.Errno) { return getList(b, 1, GetBytes) }

// Digests returns the encoding of a list of digests.
func Digests(l []api.Digest) []byte { return putList(l, appendDigest) }

// GetDigests decodes a list of digests at the beginning of a byte sequence.
func GetDigests(b []byte) ([]api.Digest, int, api.Errno) {
	return getList(b, api.DigestSize, getDigest)
}

// fold maps the integers to the natural numbers so that those near to 0 stay small, whatever their sign.
func fold(n int) uint64 {
	z := uint64(n) << 1
	if n < 0 {
		return ^z
	}
	return z
}

// unfold is the inverse of fold.
func unfold(z uint64) int {
	n := int(z >> 1)
	if z%2 == 1 {
		return ^n
	}
	return n
}

func appendInt(b []byte, n int) []byte {
	z := fold(n)
	for ; z >= more; z >>= digitBits {
		b = append(b, byte(z%more)+more)
	}
	return append(b, byte(z))
}

func appendBytes(b []byte, s string) []byte {
	return append(appendInt(b, len(s)), s...)
}

func appendDigest(b []byte, d api.Digest) []byte { return append(b, d[:]...) }

// getDigest decodes a digest; getList has made sure that b is long enough.
func getDigest(b []byte) (api.Digest, int, api.Errno) {
	return api.Digest(b[:api.DigestSize]), api.DigestSize, api.OK
}

// getLength decodes a number of elements that have at least size bytes each. It compares that number with the bytes that follow before any memory is allocated for it, and by a quotient, since a product might overflow.
func getLength(b []byte, size int) (int, int, api.Errno) {
	n, used, e := GetInt(b)
	switch {
	case e != api.OK:
		return 0, 0, e
	case n < 0:
		return 0, 0, api.ErrEncoding
	case n > (len(b)-used)/size:
		return 0, 0, api.ErrTruncated
	}
	return n, used, api.OK
}

// putList encodes a list whose elements are appended by put.
func putList[T any](l []T, put func([]byte, T) []byte) []byte {
	b := appendInt(nil, len(l))
	for _, x := range l {
		b = put(b, x)
	}
	return b
}

// getList decodes a list of elements that have at least size bytes each and are decoded by get.
func getList[T any](b []byte, size int, get func([]byte) (T, int, api.Errno)) ([]T, int, api.Errno) {
	n, at, e := getLength(b, size)
	if e != api.OK {
		return nil, 0, e
	}
	l := make([]T, 0, n)
	for range n {
		x, used, e := get(b[at:])
		if e != api.OK {
			return nil, 0, e
		}
		l = append(l, x)
		at += used
	}
	return l, at, api.OK
}
