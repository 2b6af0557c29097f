package merkle

import (
	"slices"

	"rivermark/api"
)

// Inclusion returns the proof that a list has its element at a position.
func Inclusion(leaves []api.Digest, i int) ([]api.Digest, api.Errno) {
	if i < 0 || i >= len(leaves) {
		return nil, api.ErrArg
	}
	var path []api.Digest
	var prove func(l []api.Digest, i int)
	prove = func(l []api.Digest, i int) {
		if len(l) == 1 {
			return
		}
		first, second := parts(l)
		if k := len(first); i < k {
			prove(first, i)
			path = append(path, Root(second))
		} else {
			prove(second, i-k)
			path = append(path, Root(first))
		}
	}
	prove(leaves, i)
	return path, api.OK
}

// Consistency returns the proof that the first elements were the whole list once.
func Consistency(leaves []api.Digest, m int) ([]api.Digest, api.Errno) {
	if m < 0 || m > len(leaves) {
		return nil, api.ErrArg
	}
	if m == 0 {
		return nil, api.OK
	}
	var path []api.Digest
	// The mark says that the first m elements of l are all of the old list, whose root the one who checks has already.
	var prove func(l []api.Digest, m int, mark bool)
	prove = func(l []api.Digest, m int, mark bool) {
		if m == len(l) {
			if !mark {
				path = append(path, Root(l))
			}
			return
		}
		first, second := parts(l)
		if k := len(first); m <= k {
			prove(first, m, mark)
			path = append(path, Root(second))
		} else {
			prove(second, m-k, false)
			path = append(path, Root(first))
		}
	}
	prove(leaves, m, true)
	return path, api.OK
}

// Many returns the proof that a list has its elements at several positions.
func Many(leaves []api.Digest, places []int) ([]api.Digest, api.Errno) {
	if !ascending(places, len(leaves)) {
		return nil, api.ErrArg
	}
	var path []api.Digest
	// The list l begins at the position from, and the places are those in it.
	var prove func(l []api.Digest, from int, places []int)
	prove = func(l []api.Digest, from int, places []int) {
		switch {
		case len(l) == 0:
			return
		case len(places) == 0:
			path = append(path, Root(l))
			return
		case len(l) == 1:
			return
		}
		first, second := parts(l)
		middle := from + len(first)
		left, right := cut(places, before(places, middle))
		prove(first, from, left)
		prove(second, middle, right)
	}
	prove(leaves, 0, places)
	return path, api.OK
}

// ascending reports whether places are strictly ascending positions of a list of n elements.
func ascending(places []int, n int) bool {
	last := -1
	for _, p := range places {
		if p <= last || p >= n {
			return false
		}
		last = p
	}
	return true
}

// before returns how many of the ascending places are less than the position at.
func before(places []int, at int) int {
	n, _ := slices.BinarySearch(places, at)
	return n
}
