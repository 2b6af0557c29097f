package merkle

import (
	"math/bits"
	"slices"

	"rivermark/api"
)

// Append returns the peaks of a list with one more element.
func Append(p api.Peaks, leaf api.Digest) (api.Peaks, api.Errno) {
	switch {
	case !wellFormed(p):
		return api.Peaks{}, api.ErrArg
	case p.Size == api.MaxLeaves:
		return api.Peaks{}, api.ErrLimit
	}
	// As a carry changes the digits 1 at the end of Size, the new element closes the parts that they stand for.
	closed := bits.TrailingZeros(^uint(p.Size))
	stay, end := cut(p.Tops, len(p.Tops)-closed)
	tops := append(slices.Clone(stay), join(end, leaf))
	return api.Peaks{Size: p.Size + 1, Tops: tops}, api.OK
}

// Top returns the root of a list.
func Top(p api.Peaks) (api.Digest, api.Errno) {
	if !wellFormed(p) {
		return api.Digest{}, api.ErrArg
	}
	if p.Size == 0 {
		return Root(nil), api.OK
	}
	others, last := cut(p.Tops, len(p.Tops)-1)
	return join(others, last[0]), api.OK
}

// wellFormed reports whether peaks have a top for each part.
func wellFormed(p api.Peaks) bool {
	return p.Size >= 0 && p.Size <= api.MaxLeaves && len(p.Tops) == bits.OnesCount(uint(p.Size))
}

// join returns the root of the parts with the tops and, after them, a part with the root last.
func join(tops []api.Digest, last api.Digest) api.Digest {
	for _, top := range slices.Backward(tops) {
		last = Node(top, last)
	}
	return last
}
