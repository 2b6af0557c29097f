package hash

import "math/bits"

const (
	blockSize = 64 // bytes of a block
	wordSize  = 4  // bytes of a word
	countSize = 8  // bytes of the length in the padding
	stateSize = 8  // words of a hash value
	rounds    = 64 // rounds of a block
)

// block is as much of a message as is compressed at once.
type block [blockSize]byte

// state is a hash value.
type state [stateSize]uint32

var initial = state{
	0x6a09e667, 0xbb67ae85, 0x3c6ef372, 0xa54ff53a, 0x510e527f, 0x9b05688c, 0x1f83d9ab, 0x5be0cd19,
}

var roundConstants = [rounds]uint32{
	0x428a2f98, 0x71374491, 0xb5c0fbcf, 0xe9b5dba5, 0x3956c25b, 0x59f111f1, 0x923f82a4, 0xab1c5ed5,
	0xd807aa98, 0x12835b01, 0x243185be, 0x550c7dc3, 0x72be5d74, 0x80deb1fe, 0x9bdc06a7, 0xc19bf174,
	0xe49b69c1, 0xefbe4786, 0x0fc19dc6, 0x240ca1cc, 0x2de92c6f, 0x4a7484aa, 0x5cb0a9dc, 0x76f988da,
	0x983e5152, 0xa831c66d, 0xb00327c8, 0xbf597fc7, 0xc6e00bf3, 0xd5a79147, 0x06ca6351, 0x14292967,
	0x27b70a85, 0x2e1b2138, 0x4d2c6dfc, 0x53380d13, 0x650a7354, 0x766a0abb, 0x81c2c92e, 0x92722c85,
	0xa2bfe8a1, 0xa81a664b, 0xc24b8b70, 0xc76c51a3, 0xd192e819, 0xd6990624, 0xf40e3585, 0x106aa070,
	0x19a4c116, 0x1e376c08, 0x2748774c, 0x34b0bcb5, 0x391c0cb3, 0x4ed8aa4a, 0x5b9cca4f, 0x682e6ff3,
	0x748f82ee, 0x78a5636f, 0x84c87814, 0x8cc70208, 0x90befffa, 0xa4506ceb, 0xbef9a3f7, 0xc67178f2,
}

// compress returns the hash value after a block. Its variables are named as in the chapter.
func compress(v state, text block) state {
	w := schedule(text)
	a, b, c, d, e, f, g, h := v[0], v[1], v[2], v[3], v[4], v[5], v[6], v[7]
	for t := range w {
		x := h + (rotr(e, 6) ^ rotr(e, 11) ^ rotr(e, 25)) + (e&f ^ ^e&g) + roundConstants[t] + w[t]
		y := (rotr(a, 2) ^ rotr(a, 13) ^ rotr(a, 22)) + (a&b ^ a&c ^ b&c)
		h, g, f, e, d, c, b, a = g, f, e, d+x, c, b, a, x+y
	}
	change := state{a, b, c, d, e, f, g, h}
	for i := range v {
		v[i] += change[i]
	}
	return v
}

// schedule returns the words that the rounds of a block add.
func schedule(text block) [rounds]uint32 {
	var w [rounds]uint32
	for t := range blockSize / wordSize {
		w[t] = word([wordSize]byte(text[wordSize*t:]))
	}
	for t := blockSize / wordSize; t < rounds; t++ {
		s0 := rotr(w[t-15], 7) ^ rotr(w[t-15], 18) ^ w[t-15]>>3
		s1 := rotr(w[t-2], 17) ^ rotr(w[t-2], 19) ^ w[t-2]>>10
		w[t] = w[t-16] + s0 + w[t-7] + s1
	}
	return w
}

func word(b [wordSize]byte) uint32 {
	return uint32(b[0])<<24 | uint32(b[1])<<16 | uint32(b[2])<<8 | uint32(b[3])
}

func rotr(x uint32, n int) uint32 { return bits.RotateLeft32(x, -n) }

// padding returns what follows a message of size bytes, so that the last block is full.
func padding(size uint64) []byte {
	const last = blockSize - countSize - 1 // where the byte 128 is, if it and the length just fill a block
	zeros := (blockSize + last - size%blockSize) % blockSize
	b := make([]byte, 1+zeros, 1+zeros+countSize)
	b[0] = 128
	return appendNumber(b, 8*size, countSize)
}

// bytes returns the words of a hash value, one after the other.
func (v state) bytes() [32]byte {
	b := make([]byte, 0, stateSize*wordSize)
	for _, n := range v {
		b = appendNumber(b, uint64(n), wordSize)
	}
	return [32]byte(b)
}

// appendNumber appends the last size bytes of a number, the most significant one first.
func appendNumber(b []byte, n uint64, size int) []byte {
	for i := size - 1; i >= 0; i-- {
		b = append(b, byte(n>>(8*i)))
	}
	return b
}
