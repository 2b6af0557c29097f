package merkle

import "rivermark/api"

// CheckInclusion checks a proof of Inclusion.
func CheckInclusion(leaf api.Digest, i, n int, path []api.Digest, root api.Digest) bool {
	if i < 0 || i >= n || n > api.MaxLeaves {
		return false
	}
	return follow(path, func(next func() api.Digest) bool {
		return rootFromOne(leaf, i, n, next) == root
	})
}

// CheckConsistency checks a proof of Consistency.
func CheckConsistency(m, n int, old, root api.Digest, path []api.Digest) bool {
	if m < 0 || m > n || n > api.MaxLeaves {
		return false
	}
	return follow(path, func(next func() api.Digest) bool {
		if m == 0 {
			return old == Root(nil)
		}
		was, is := rootsFromOld(m, n, true, old, next)
		return was == old && is == root
	})
}

// CheckMany checks a proof of Many.
func CheckMany(n int, places []int, found, path []api.Digest, root api.Digest) bool {
	if n < 0 || n > api.MaxLeaves || !ascending(places, n) || len(found) != len(places) {
		return false
	}
	return follow(path, func(next func() api.Digest) bool {
		return rootFromMany(0, n, places, found, next) == root
	})
}

// follow reports whether a check accepts the digests of a path, which it gets from its argument one after the other, and whether these are exactly all of the path.
func follow(path []api.Digest, check func(next func() api.Digest) bool) (ok bool) {
	asked := 0
	// How many digests a proof has is known only when the check has gone through the tree.
	defer func() { ok = ok && asked == len(path) }()
	return check(func() api.Digest {
		asked++
		if asked > len(path) {
			return api.Digest{}
		}
		return path[asked-1]
	})
}

// rootFromOne returns the root of n elements, of which one is at the position i.
func rootFromOne(leaf api.Digest, i, n int, next func() api.Digest) api.Digest {
	if n == 1 {
		return leaf
	}
	k := half(n)
	if i < k {
		first := rootFromOne(leaf, i, k, next)
		return Node(first, next())
	}
	second := rootFromOne(leaf, i-k, n-k, next)
	return Node(next(), second)
}

// rootsFromOld returns the roots of the first m of n elements, of which there is at least one, and of all.
func rootsFromOld(m, n int, mark bool, old api.Digest, next func() api.Digest) (was, is api.Digest) {
	if m == n {
		if !mark {
			old = next()
		}
		return old, old
	}
	k := half(n)
	if m <= k {
		was, is = rootsFromOld(m, k, mark, old, next)
		return was, Node(is, next())
	}
	was, is = rootsFromOld(m-k, n-k, false, old, next)
	first := next()
	return Node(first, was), Node(first, is)
}

// rootFromMany returns the root of n elements from the position from on, of which those at the places are found.
func rootFromMany(from, n int, places []int, found []api.Digest, next func() api.Digest) api.Digest {
	switch {
	case n == 0:
		return Root(nil)
	case len(places) == 0:
		return next()
	case n == 1:
		return found[0]
	}
	k := half(n)
	middle := from + k
	at := before(places, middle)
	left, right := cut(places, at)
	foundLeft, foundRight := cut(found, at)
	first := rootFromMany(from, k, left, foundLeft, next)
	second := rootFromMany(middle, n-k, right, foundRight, next)
	return Node(first, second)
}
