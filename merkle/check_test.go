package merkle_test

import (
	"math"
	"math/rand"
	"slices"
	"testing"

	"rivermark/api"
	"rivermark/hash"
	"rivermark/merkle"
)

// includes checks a proof of inclusion in another way: from the leaf upwards, by the digits of the position.
func includes(leaf api.Digest, i, n int, path []api.Digest, root api.Digest) bool {
	if n < 1 || n > api.MaxLeaves || i < 0 || i >= n {
		return false
	}
	for last := n - 1; last > 0; i, last = i/2, last/2 {
		if i%2 == 0 && i == last {
			continue
		}
		if len(path) == 0 {
			return false
		}
		if i%2 == 1 {
			leaf = merkle.Node(path[0], leaf)
		} else {
			leaf = merkle.Node(leaf, path[0])
		}
		path = path[1:]
	}
	return len(path) == 0 && leaf == root
}

// continues checks a proof of consistency in another way: upwards, by the digits of the last positions of both lists.
func continues(m, n int, old, root api.Digest, path []api.Digest) bool {
	if m < 0 || m > n || n > api.MaxLeaves {
		return false
	}
	if m == 0 {
		return len(path) == 0 && old == hash.Of(32)
	}
	if m == n {
		return len(path) == 0 && old == root
	}
	if m&(m-1) == 0 {
		path = slices.Concat([]api.Digest{old}, path)
	}
	if len(path) == 0 {
		return false
	}
	f, s := m-1, n-1
	for ; f%2 == 1; f, s = f/2, s/2 {
	}
	was, is := path[0], path[0]
	for _, c := range path[1:] {
		if s == 0 {
			return false
		}
		if f%2 == 1 || f == s {
			was, is = merkle.Node(c, was), merkle.Node(c, is)
			for ; f%2 == 0 && f != 0; f, s = f/2, s/2 {
			}
		} else {
			is = merkle.Node(is, c)
		}
		f, s = f/2, s/2
	}
	return was == old && is == root && s == 0
}

// spoilt returns lists that are not quite the list: with a digest changed, dropped, doubled, moved or added.
func spoilt(l []api.Digest) [][]api.Digest {
	end := merkle.Leaf("end")
	all := [][]api.Digest{append(slices.Clone(l), end), append(slices.Clone(l), api.Digest{}), append([]api.Digest{end}, l...), append([]api.Digest{{}}, l...)}
	for i, d := range l {
		other := slices.Clone(l)
		other[i] = change(d, 7*i+3)
		all = append(all, other, slices.Delete(slices.Clone(l), i, i+1), slices.Insert(slices.Clone(l), i, d), l[:i])
		if i > 0 && d != l[i-1] {
			moved := slices.Clone(l)
			moved[i], moved[i-1] = moved[i-1], moved[i]
			all = append(all, moved)
		}
	}
	return all
}

// checkInclusion checks that a proof is accepted, and nothing that is not quite the proof.
func checkInclusion(t *testing.T, leaf api.Digest, i, n int, path []api.Digest, root api.Digest) {
	t.Helper()
	if !merkle.CheckInclusion(leaf, i, n, path, root) {
		t.Errorf("P3.6: the proof of inclusion of %d of %d is refused", i, n)
	}
	for _, other := range spoilt(path) {
		if merkle.CheckInclusion(leaf, i, n, other, root) {
			t.Errorf("P3.2: a spoilt proof of inclusion of %d of %d is accepted", i, n)
		}
	}
	if merkle.CheckInclusion(change(leaf, i), i, n, path, root) || merkle.CheckInclusion(leaf, i, n, path, change(root, i)) {
		t.Errorf("P3.2: inclusion of another leaf, or in another root, for %d of %d", i, n)
	}
}

func TestCheckInclusion(t *testing.T) {
	for n := 1; n < 20; n++ {
		l := leaves(n)
		for i := range n {
			path, _ := merkle.Inclusion(l, i)
			checkInclusion(t, l[i], i, n, path, merkle.Root(l))
			for m := -1; m < n+5; m++ {
				for j := -1; j < m+2; j++ {
					if got := merkle.CheckInclusion(l[i], j, m, path, merkle.Root(l)); got != includes(l[i], j, m, path, merkle.Root(l)) {
						t.Errorf("P3.2: the proof of %d of %d checked for %d of %d: %t", i, n, j, m, got)
					}
				}
			}
		}
	}
}

func TestCheckInclusionInGreatTrees(t *testing.T) {
	r := rand.New(rand.NewSource(33))
	for _, n := range sizes() {
		if n == 0 {
			continue
		}
		for _, i := range some(r, n) {
			tr := newTree(n, i, n/3)
			path := tr.inclusion(tr.all(), i)
			checkInclusion(t, tr.at(i), i, n, path, tr.root(tr.all()))
		}
	}
}

func TestCheckInclusionLimits(t *testing.T) {
	a := merkle.Leaf("a")
	for _, n := range append(outside, 0, api.MaxLeaves+1) {
		for _, i := range append(outside, 0, 1, n-1, n) {
			if n != api.MaxLeaves && n != 1<<32 && merkle.CheckInclusion(a, i, n, nil, a) {
				t.Errorf("P3.2: inclusion of %d of %d", i, n)
			}
		}
	}
	// A tree with more than MaxLeaves leaves: the path leads to the root, but no such tree is allowed.
	n := api.MaxLeaves + 1
	tr := newTree(n, 0, n-1)
	for _, i := range []int{0, n - 1} {
		path, root := tr.inclusion(tr.all(), i), tr.root(tr.all())
		if merkle.CheckInclusion(tr.at(i), i, n, path, root) {
			t.Errorf("P3.2: inclusion of %d of %d", i, n)
		}
	}
	for _, i := range append(outside, 1, 2) {
		if merkle.CheckInclusion(a, i, 1, nil, a) {
			t.Errorf("P3.2: inclusion of %d of 1", i)
		}
	}
}

// checkConsistency checks that a proof is accepted, and nothing that is not quite the proof (P3.8).
func checkConsistency(t *testing.T, m, n int, old, root api.Digest, path []api.Digest) {
	t.Helper()
	if !merkle.CheckConsistency(m, n, old, root, path) {
		t.Errorf("P3.8: the proof of consistency of %d of %d is refused", m, n)
	}
	for _, other := range spoilt(path) {
		if merkle.CheckConsistency(m, n, old, root, other) {
			t.Errorf("P3.3: a spoilt proof of consistency of %d of %d is accepted", m, n)
		}
	}
	if merkle.CheckConsistency(m, n, change(old, n), root, path) {
		t.Errorf("P3.8: another root of the first %d of %d is accepted", m, n)
	}
	if got := merkle.CheckConsistency(m, n, old, change(root, n), path); got != (m == 0) {
		t.Errorf("P3.8: another root of all for %d of %d: %t", m, n, got)
	}
}

func TestCheckConsistency(t *testing.T) {
	for n := range 20 {
		l := leaves(n)
		root := merkle.Root(l)
		for m := range n + 1 {
			path, _ := merkle.Consistency(l, m)
			old := merkle.Root(l[:m])
			checkConsistency(t, m, n, old, root, path)
			for n2 := -2; n2 < 25; n2++ {
				for m2 := -2; m2 < 25; m2++ {
					if got := merkle.CheckConsistency(m2, n2, old, root, path); got != continues(m2, n2, old, root, path) {
						t.Errorf("P3.3: the proof of %d of %d checked for %d of %d: %t", m, n, m2, n2, got)
					}
				}
			}
		}
	}
}

func TestCheckConsistencyInGreatTrees(t *testing.T) {
	r := rand.New(rand.NewSource(34))
	for _, n := range sizes() {
		if n == 0 {
			continue
		}
		for _, m := range some(r, n) {
			tr := newTree(n, m, m/2, n-1)
			checkConsistency(t, m+1, n, tr.root(part{0, m + 1}), tr.root(tr.all()), tr.consistency(tr.all(), m+1, true))
			checkConsistency(t, 0, n, hash.Of(32), tr.root(tr.all()), nil)
		}
	}
}

func TestCheckConsistencyLimits(t *testing.T) {
	a, empty := merkle.Leaf("a"), hash.Of(32)
	for _, x := range []struct {
		m, n      int
		old, root api.Digest
		path      []api.Digest
		want      bool
	}{
		{0, 0, empty, empty, nil, true},
		{0, 0, empty, a, nil, true},
		{0, 0, empty, a, []api.Digest{}, true},
		{0, 0, a, a, nil, false},
		{0, 0, empty, empty, []api.Digest{a}, false},
		{0, 5, empty, a, nil, true},
		{0, 5, a, a, nil, false},
		{0, 5, empty, a, []api.Digest{a}, false},
		{0, api.MaxLeaves, empty, a, nil, true},
		{0, api.MaxLeaves + 1, empty, a, nil, false},
		{0, math.MaxInt, empty, a, nil, false},
		{0, -1, empty, empty, nil, false},
		{-1, -1, empty, empty, nil, false},
		{-1, 0, empty, empty, nil, false},
		{-1, 3, a, a, nil, false},
		{math.MinInt, 3, a, a, nil, false},
		{math.MinInt, math.MinInt, a, a, nil, false},
		{4, 3, a, a, nil, false},
		{math.MaxInt, 3, a, a, nil, false},
		{1, 1, a, a, nil, true},
		{1, 1, a, empty, nil, false},
		{1, 1, a, a, []api.Digest{a}, false},
		{1, 2, a, a, nil, false},
		{api.MaxLeaves, api.MaxLeaves, a, a, nil, true},
		{api.MaxLeaves, api.MaxLeaves, a, a, []api.Digest{a}, false},
		{api.MaxLeaves + 1, api.MaxLeaves + 1, a, a, nil, false},
		{math.MaxInt, math.MaxInt, a, a, nil, false},
	} {
		if got := merkle.CheckConsistency(x.m, x.n, x.old, x.root, x.path); got != x.want {
			t.Errorf("P3.3: CheckConsistency(%d, %d, %x, %x, %x) = %t", x.m, x.n, x.old, x.root, x.path, got)
		}
	}
}

// checkMany checks that a proof is accepted, and nothing that is not quite the proof.
func checkMany(t *testing.T, n int, places []int, found, path []api.Digest, root api.Digest) {
	t.Helper()
	if !merkle.CheckMany(n, places, found, path, root) {
		t.Errorf("P3.8: the proof of %v of %d is refused", places, n)
	}
	for _, other := range spoilt(path) {
		if merkle.CheckMany(n, places, found, other, root) {
			t.Errorf("P3.4: a spoilt proof of %v of %d is accepted", places, n)
		}
	}
	for _, other := range spoilt(found) {
		if merkle.CheckMany(n, places, other, path, root) {
			t.Errorf("P3.4: other elements are accepted at %v of %d", places, n)
		}
	}
	if merkle.CheckMany(n, places, found, path, change(root, n)) {
		t.Errorf("P3.4: another root is accepted for %v of %d", places, n)
	}
}

func TestCheckMany(t *testing.T) {
	for n := range 9 {
		l := leaves(n)
		tr := treeOf(l)
		for _, places := range subsets(n) {
			path, _ := merkle.Many(l, places)
			checkMany(t, n, places, tr.found(places), path, merkle.Root(l))
		}
	}
}

// TestCheckManyOfOtherPlaces checks each proof for all places of all sizes: it is accepted just where a tree of this shape has the root.
func TestCheckManyOfOtherPlaces(t *testing.T) {
	l := leaves(6)
	tr := treeOf(l)
	for _, places := range subsets(6) {
		path, found := tr.many(tr.all(), places), tr.found(places)
		for n := range 8 {
			for _, others := range subsets(n) {
				got := merkle.CheckMany(n, others, found, path, merkle.Root(l))
				if want := fits(n, others, found, path, merkle.Root(l)); got != want {
					t.Errorf("P3.4: the proof of %v of 6 checked for %v of %d: %t", places, others, n, got)
				}
			}
		}
	}
}

// fits checks a proof of several elements in another way: all parts are listed, and joined from the shortest ones on.
func fits(n int, places []int, found, path []api.Digest, root api.Digest) bool {
	if n == 0 || len(places) != len(found) {
		return n == 0 && len(path)+len(found)+len(places) == 0 && root == hash.Of(32)
	}
	known := map[part]api.Digest{}
	for i, p := range places {
		known[part{p, p + 1}] = found[i]
	}
	all := []part{{0, n}}
	for i := 0; i < len(all); i++ {
		p := all[i]
		if !slices.ContainsFunc(places, p.has) {
			continue
		}
		if p.size() > 1 {
			first, second := p.parts()
			all = append(all, first, second)
		}
	}
	slices.SortFunc(all, func(p, q part) int { return p.from - q.from })
	for _, p := range all {
		if slices.ContainsFunc(places, p.has) {
			continue
		}
		if len(path) == 0 {
			return false
		}
		known[p], path = path[0], path[1:]
	}
	slices.SortFunc(all, func(p, q part) int { return p.size() - q.size() })
	for _, p := range all {
		if _, ok := known[p]; !ok {
			first, second := p.parts()
			known[p] = merkle.Node(known[first], known[second])
		}
	}
	return len(path) == 0 && known[part{0, n}] == root
}

func TestCheckManyInGreatTrees(t *testing.T) {
	r := rand.New(rand.NewSource(35))
	for _, n := range sizes() {
		if n == 0 {
			continue
		}
		places := some(r, n)
		tr := newTree(n, append(slices.Clone(places), r.Intn(n))...)
		for _, p := range [][]int{nil, places[:1], places[len(places)/2:][:min(3, len(places)/2)], places[len(places)-1:]} {
			checkMany(t, n, p, tr.found(p), tr.many(tr.all(), p), tr.root(tr.all()))
		}
		if !merkle.CheckMany(n, places, tr.found(places), tr.many(tr.all(), places), tr.root(tr.all())) {
			t.Errorf("P3.8: the proof of %v of %d is refused", places, n)
		}
	}
}

func TestCheckManyLimits(t *testing.T) {
	a, empty := merkle.Leaf("a"), hash.Of(32)
	one := []api.Digest{a}
	for _, x := range []struct {
		n           int
		places      []int
		found, path []api.Digest
		root        api.Digest
		want        bool
	}{
		{0, nil, nil, nil, empty, true},
		{0, []int{}, []api.Digest{}, []api.Digest{}, empty, true},
		{0, nil, nil, nil, a, false},
		{0, nil, nil, one, a, false},
		{0, nil, nil, []api.Digest{empty}, empty, false},
		{0, nil, one, nil, empty, false},
		{0, []int{0}, one, nil, a, false},
		{1, []int{0}, one, nil, a, true},
		{1, []int{0}, nil, one, a, false},
		{1, []int{0}, nil, nil, a, false},
		{1, nil, one, nil, a, false},
		{1, nil, nil, one, a, true},
		{1, nil, nil, nil, empty, false},
		{2, []int{0, 0}, []api.Digest{a, a}, nil, merkle.Node(a, a), false},
		{2, []int{1, 0}, []api.Digest{a, a}, nil, merkle.Node(a, a), false},
		{2, []int{0, 1}, []api.Digest{a, a}, nil, merkle.Node(a, a), true},
		{2, []int{-1}, one, one, merkle.Node(a, a), false},
		{2, []int{-1, 1}, []api.Digest{a, a}, nil, merkle.Node(a, a), false},
		{2, []int{0, 2}, []api.Digest{a, a}, nil, merkle.Node(a, a), false},
		{2, []int{2}, one, one, merkle.Node(a, a), false},
		{2, []int{math.MinInt}, one, one, merkle.Node(a, a), false},
		{2, []int{math.MaxInt}, one, one, merkle.Node(a, a), false},
		{-1, nil, nil, nil, empty, false},
		{-1, nil, nil, one, a, false},
		{math.MinInt, nil, nil, one, a, false},
		{api.MaxLeaves, nil, nil, one, a, true},
		{api.MaxLeaves + 1, nil, nil, one, a, false},
		{math.MaxInt, nil, nil, one, a, false},
	} {
		if got := merkle.CheckMany(x.n, x.places, x.found, x.path, x.root); got != x.want {
			t.Errorf("P3.4: CheckMany(%d, %v, %x, %x, %x) = %t", x.n, x.places, x.found, x.path, x.root, got)
		}
	}
}

// TestChecksKeepArguments checks that arguments, and what lies behind them, stay.
func TestChecksKeepArguments(t *testing.T) {
	l := leaves(11)
	root := merkle.Root(l)
	tr := treeOf(l)
	places := []int{1, 4, 9, 77}
	found := append(tr.found(places[:3]), l...)
	for _, path := range [][]api.Digest{tr.inclusion(tr.all(), 4), tr.consistency(tr.all(), 5, true), tr.many(tr.all(), places[:3])} {
		for size := range len(path) + 1 {
			kept, all := slices.Clone(path), slices.Clone(found)
			merkle.CheckInclusion(l[4], 4, 11, path[:size], root)
			merkle.CheckConsistency(5, 11, merkle.Root(l[:5]), root, path[:size])
			merkle.CheckMany(11, places[:3], found[:3], path[:size], root)
			if !slices.Equal(path, kept) || !slices.Equal(found, all) || !slices.Equal(places, []int{1, 4, 9, 77}) {
				t.Fatal("a check changes its arguments")
			}
		}
	}
}
