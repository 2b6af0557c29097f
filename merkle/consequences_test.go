package merkle_test

import (
	"math"
	"math/rand"
	"slices"
	"testing"

	"rivermark/api"
	"rivermark/hash"
	"rivermark/merkle"
)

// TestProofsAreAccepted checks P3.6 in longer lists.
func TestProofsAreAccepted(t *testing.T) {
	r := rand.New(rand.NewSource(36))
	for _, n := range []int{21, 31, 32, 33, 63, 64, 65, 100, 127, 128, 129, 500} {
		l := leaves(n)
		root := merkle.Root(l)
		for _, i := range some(r, n) {
			path, e := merkle.Inclusion(l, i)
			if e != api.OK || !merkle.CheckInclusion(l[i], i, n, path, root) || !includes(l[i], i, n, path, root) {
				t.Errorf("P3.6: inclusion of %d of %d: %d", i, n, e)
			}
			path, e = merkle.Consistency(l, i)
			old := merkle.Root(l[:i])
			if e != api.OK || !merkle.CheckConsistency(i, n, old, root, path) || !continues(i, n, old, root, path) {
				t.Errorf("P3.6: consistency of %d of %d: %d", i, n, e)
			}
			places := some(r, n)[i%3:]
			found := treeOf(l).found(places)
			path, e = merkle.Many(l, places)
			if e != api.OK || !merkle.CheckMany(n, places, found, path, root) {
				t.Errorf("P3.6: %v of %d: %d", places, n, e)
			}
		}
	}
}

// unique returns each digest of a list once.
func unique(l []api.Digest) []api.Digest {
	var once []api.Digest
	for _, d := range l {
		if !slices.Contains(once, d) {
			once = append(once, d)
		}
	}
	return once
}

// all returns the roots of all parts of a part.
func all(t tree, p part) []api.Digest {
	l := []api.Digest{t.root(p)}
	if p.size() > 1 {
		first, second := p.parts()
		l = slices.Concat(l, all(t, first), all(t, second))
	}
	return l
}

// paths calls a function with all paths of at most size digests of a list.
func paths(l []api.Digest, size int, do func([]api.Digest)) {
	path := make([]api.Digest, 0, size)
	var more func()
	more = func() {
		do(path)
		if len(path) == size {
			return
		}
		for _, d := range l {
			path = append(path, d)
			more()
			path = path[:len(path)-1]
		}
	}
	more()
}

// TestBinding tries all leaves and all paths that can be made of the roots of the parts of a tree: for each position just one leaf and one path are accepted (P3.7).
func TestBinding(t *testing.T) {
	for n := 1; n < 6; n++ {
		l := leaves(n)
		tr := treeOf(l)
		known := append(all(tr, tr.all()), hash.Of(32), api.Digest{})
		for i := range n {
			accepted := 0
			want := tr.inclusion(tr.all(), i)
			paths(known, 3, func(path []api.Digest) {
				for _, leaf := range known {
					if merkle.CheckInclusion(leaf, i, n, path, tr.root(tr.all())) {
						accepted++
						if leaf != l[i] || !slices.Equal(path, want) {
							t.Errorf("P3.7: another leaf, or another path, is accepted for %d of %d", i, n)
						}
					}
				}
			})
			if accepted != 1 {
				t.Errorf("P3.7: %d leaves and paths are accepted for %d of %d", accepted, i, n)
			}
		}
	}
}

// TestConsistencyBinds tries all paths and all old roots that can be made of the roots of the parts of a tree (P3.8).
func TestConsistencyBinds(t *testing.T) {
	for n := 1; n < 6; n++ {
		l := leaves(n)
		tr := treeOf(l)
		known := append(all(tr, tr.all()), hash.Of(32))
		for m := 1; m <= n; m++ {
			known = append(known, tr.root(part{0, m}))
		}
		known = unique(known)
		for m := 1; m <= n; m++ {
			want := tr.consistency(tr.all(), m, true)
			paths(known, 3, func(path []api.Digest) {
				for _, old := range known {
					got := merkle.CheckConsistency(m, n, old, tr.root(tr.all()), path)
					if got && (old != merkle.Root(l[:m]) || !slices.Equal(path, want)) {
						t.Errorf("P3.8: another old root, or another path, is accepted for %d of %d", m, n)
					}
				}
			})
		}
	}
}

// TestAnyArguments gives the checks arguments of all kinds: none of them panics (P1), and they accept what the other ways accept.
func TestAnyArguments(t *testing.T) {
	r := rand.New(rand.NewSource(37))
	few := leaves(4)
	few = append(few, merkle.Node(few[0], few[1]), hash.Of(32), api.Digest{}, merkle.Node(few[0], few[0]))
	number := func() int {
		switch r.Intn(6) {
		case 0:
			return outside[r.Intn(len(outside))]
		case 1:
			return int(r.Uint64()) >> r.Intn(64)
		}
		return r.Intn(5) - 1
	}
	digests := func(n int) []api.Digest {
		var l []api.Digest
		for range n {
			l = append(l, few[r.Intn(len(few))])
		}
		return l
	}
	var accepted [3]int
	for range 100000 {
		n, i, path, d := number(), number(), digests(r.Intn(4)), digests(2)
		one, two := merkle.CheckInclusion(d[0], i, n, path, d[1]), merkle.CheckConsistency(i, n, d[0], d[1], path)
		if one != includes(d[0], i, n, path, d[1]) || two != continues(i, n, d[0], d[1], path) {
			t.Fatalf("P3.2, P3.3: %d of %d, with %x and %x: %t, %t", i, n, d, path, one, two)
		}
		places, found := []int{i, number(), number()}[:r.Intn(4)], digests(r.Intn(4))
		three := merkle.CheckMany(n, places, found, path, d[0])
		if three && n < 10 && !fits(n, places, found, path, d[0]) {
			t.Fatalf("P3.4: %v of %d, with %x and %x", places, n, found, path)
		}
		for k, ok := range []bool{one, two, three} {
			if ok {
				accepted[k]++
			}
		}
		merkle.Inclusion(path, i)
		merkle.Consistency(path, i)
		merkle.Many(path, places)
		merkle.Append(api.Peaks{Size: n, Tops: path}, d[0])
		merkle.Top(api.Peaks{Size: n, Tops: path})
	}
	if slices.Min(accepted[:]) < 50 {
		t.Error("too few of the arguments are accepted:", accepted)
	}
}

// TestLongPlaces checks that many places of a great tree, without a proof, are refused in a short time (P1).
func TestLongPlaces(t *testing.T) {
	places := make([]int, 10000)
	for i := range places {
		places[i] = i * (api.MaxLeaves / len(places))
	}
	found := slices.Repeat([]api.Digest{merkle.Leaf("a")}, len(places))
	if merkle.CheckMany(api.MaxLeaves, places, found, nil, found[0]) {
		t.Error("P3.4: 10000 elements are accepted without a proof")
	}
	if merkle.CheckMany(math.MaxInt, places, found, nil, found[0]) {
		t.Error("P3.4: 10000 elements of MaxInt are accepted")
	}
}
