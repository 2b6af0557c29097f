package hash

// The bytes with which the block of a key is combined.
const (
	innerPad = 0x36
	outerPad = 0x5c
)

// keyed holds the two streams of a keyed hash after the block of the key: many messages can continue them, while the key is hashed just once.
type keyed struct {
	inner, outer Stream
}

// keyedBy returns the streams of a key.
func keyedBy(key string) keyed {
	b := keyBlock(key)
	return keyed{beginWith(b, innerPad), beginWith(b, outerPad)}
}

// sum returns the keyed hash of the message with which s continues the inner stream.
func (k keyed) sum(s Stream) [32]byte {
	inner := s.Sum()
	return add(k.outer, inner[:]).Sum()
}

// keyBlock returns the block of a key.
func keyBlock(key string) block {
	var b block
	if len(key) <= blockSize {
		copy(b[:], key)
		return b
	}
	sum := Begin().Add(key).Sum()
	copy(b[:], sum[:])
	return b
}

// beginWith returns a stream whose message is a block, each byte of it combined with pad.
func beginWith(b block, pad byte) Stream {
	for i := range b {
		b[i] ^= pad
	}
	return add(Begin(), b[:])
}
