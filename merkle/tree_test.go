package merkle_test

import (
	"math/rand"
	"slices"
	"testing"

	"rivermark/api"
	"rivermark/hash"
	"rivermark/merkle"
)

// leaves returns n different digests.
func leaves(n int) []api.Digest {
	l := make([]api.Digest, n)
	for i := range l {
		l[i] = merkle.Leaf(string([]byte{byte(i), byte(i >> 8)}))
	}
	return l
}

// change returns a digest with one other bit, which bit depends on the number.
func change(d api.Digest, bit int) api.Digest {
	d[bit/8%len(d)] ^= 1 << (bit % 8)
	return d
}

// part is the elements of a list from the position from to the position to (not included).
type part struct{ from, to int }

func (p part) size() int      { return p.to - p.from }
func (p part) has(i int) bool { return p.from <= i && i < p.to }

// parts returns the two parts of a part, as P3.1 says.
func (p part) parts() (part, part) {
	k := 1
	for 2*k < p.size() {
		k *= 2
	}
	return part{p.from, p.from + k}, part{p.from + k, p.to}
}

// tree is a list of n elements, which may be a great many: all are the same but for some others.
type tree struct {
	n     int
	leaf  api.Digest
	other map[int]api.Digest
	same  map[int]api.Digest // the roots of parts without others, by their sizes
}

// newTree returns a tree with some others.
func newTree(n int, others ...int) tree {
	t := tree{n, merkle.Leaf("same"), map[int]api.Digest{}, map[int]api.Digest{}}
	for _, i := range others {
		t.other[i] = merkle.Leaf("other" + string([]byte{byte(i), byte(i >> 8)}))
	}
	return t
}

// treeOf returns the tree of a list.
func treeOf(l []api.Digest) tree {
	t := newTree(len(l))
	for i, d := range l {
		t.other[i] = d
	}
	return t
}

func (t tree) all() part { return part{0, t.n} }

// at returns the element at a position.
func (t tree) at(i int) api.Digest {
	if d, ok := t.other[i]; ok {
		return d
	}
	return t.leaf
}

// root is the root of a part, as P3.1 says.
func (t tree) root(p part) api.Digest {
	if p.size() == 0 {
		return hash.Of(32)
	}
	if p.size() == 1 {
		return t.at(p.from)
	}
	others := false
	for i := range t.other {
		others = others || p.has(i)
	}
	if d, ok := t.same[p.size()]; ok && !others {
		return d
	}
	first, second := p.parts()
	a, b := t.root(first), t.root(second)
	d := hash.Of(31, string(a[:]), string(b[:]))
	if !others {
		t.same[p.size()] = d
	}
	return d
}

// inclusion is the proof of P3.2, word by word.
func (t tree) inclusion(p part, i int) []api.Digest {
	if p.size() == 1 {
		return nil
	}
	first, second := p.parts()
	if first.has(i) {
		return append(t.inclusion(first, i), t.root(second))
	}
	return append(t.inclusion(second, i), t.root(first))
}

// consistency is the proof of P3.3, word by word, for m from 1 to the size of the part.
func (t tree) consistency(p part, m int, mark bool) []api.Digest {
	if m == p.size() {
		if mark {
			return nil
		}
		return []api.Digest{t.root(p)}
	}
	first, second := p.parts()
	if k := first.size(); m > k {
		return append(t.consistency(second, m-k, false), t.root(first))
	}
	return append(t.consistency(first, m, mark), t.root(second))
}

// many is the proof of P3.4: the roots of the greatest parts that have none of the places, from left to right.
func (t tree) many(p part, places []int) []api.Digest {
	if p.size() == 0 {
		return nil
	}
	if !slices.ContainsFunc(places, p.has) {
		return []api.Digest{t.root(p)}
	}
	if p.size() == 1 {
		return nil
	}
	first, second := p.parts()
	return append(t.many(first, places), t.many(second, places)...)
}

// found returns the elements at some places.
func (t tree) found(places []int) []api.Digest {
	var l []api.Digest
	for _, i := range places {
		l = append(l, t.at(i))
	}
	return l
}

// rootInLayers computes a root in another way: from layer to layer, neighbours are joined, and one without a neighbour stays.
func rootInLayers(l []api.Digest) api.Digest {
	l = slices.Clone(l)
	for len(l) > 1 {
		for i := range l {
			if i%2 == 0 && i+1 < len(l) {
				l[i/2] = merkle.Node(l[i], l[i+1])
			} else if i%2 == 0 {
				l[i/2] = l[i]
			}
		}
		l = l[:(len(l)+1)/2]
	}
	return l[0]
}

// sizes returns sizes of trees up to the greatest one.
func sizes() []int {
	l := []int{1000, 1 << 20, 1<<20 + 1, 1<<39 - 1, 1 << 39, 1<<39 + 1, api.MaxLeaves - 1, api.MaxLeaves}
	for n := range 21 {
		l = append(l, n)
	}
	r := rand.New(rand.NewSource(31))
	for range 12 {
		l = append(l, 1+r.Intn(api.MaxLeaves)>>r.Intn(40))
	}
	return l
}

// some returns positions of a list of n elements: both ends, some of the places where its parts meet, and others.
func some(r *rand.Rand, n int) []int {
	l := []int{0, n - 1, n / 2, r.Intn(n), r.Intn(n)}
	for p := (part{0, n}); p.size() > 1; {
		first, second := p.parts()
		if r.Intn(3) == 0 || p.from == 0 {
			l = append(l, second.from-1, second.from)
		}
		p = second
		if r.Intn(4) == 0 {
			p = first
		}
	}
	slices.Sort(l)
	return slices.Compact(l)
}

func TestLeafAndNode(t *testing.T) {
	for _, s := range []string{"", "a", "\x00", "\x1e", string(make([]byte, 32)), string(make([]byte, 500))} {
		if merkle.Leaf(s) != hash.Of(30, s) {
			t.Errorf("P3.1: Leaf(%q) = %x", s, merkle.Leaf(s))
		}
	}
	a, b := merkle.Leaf("a"), merkle.Leaf("b")
	for _, x := range [][2]api.Digest{{a, b}, {b, a}, {a, a}, {a, {}}, {{}, a}, {}} {
		want := hash.Of(31, string(x[0][:]), string(x[1][:]))
		if got := merkle.Node(x[0], x[1]); got != want {
			t.Errorf("P3.1: Node(%x) = %x, want %x", x, got, want)
		}
	}
	if merkle.Node(a, b) == merkle.Node(b, a) || merkle.Leaf(string(a[:])+string(b[:])) == merkle.Node(a, b) {
		t.Error("P3.1: the order and the tag of a digest do not matter")
	}
}

func TestRootOfSmallLists(t *testing.T) {
	l := leaves(7)
	n := merkle.Node
	ab, cd, ef := n(l[0], l[1]), n(l[2], l[3]), n(l[4], l[5])
	for i, want := range []api.Digest{
		hash.Of(32),
		l[0],
		ab,
		n(ab, l[2]),
		n(ab, cd),
		n(n(ab, cd), l[4]),
		n(n(ab, cd), ef),
		n(n(ab, cd), n(ef, l[6])),
	} {
		if got := merkle.Root(l[:i]); got != want {
			t.Errorf("P3.1: the root of %d elements is %x, want %x", i, got, want)
		}
	}
	if merkle.Root([]api.Digest{}) != merkle.Root(nil) {
		t.Error("P3.1: the roots of empty lists differ")
	}
}

func TestRootIsAsDefined(t *testing.T) {
	l := leaves(300)
	for n := range len(l) {
		got := merkle.Root(l[:n])
		if want := treeOf(l[:n]).root(part{0, n}); n < 70 && got != want {
			t.Errorf("P3.1: the root of %d elements is %x, want %x", n, got, want)
		}
		if n > 0 && got != rootInLayers(l[:n]) {
			t.Errorf("P3.1: the root of %d elements is %x, want %x", n, got, rootInLayers(l[:n]))
		}
	}
	same := slices.Repeat([]api.Digest{l[0]}, 9)
	if merkle.Root(same) != rootInLayers(same) {
		t.Error("P3.1: the root of 9 equal elements")
	}
}

func TestRootOfLongList(t *testing.T) {
	for _, n := range []int{1 << 16, 1<<16 + 1, 100001} {
		l := slices.Repeat([]api.Digest{merkle.Leaf("same")}, n)
		if got := merkle.Root(l); got != newTree(n).root(part{0, n}) {
			t.Errorf("P3.1: the root of %d elements is %x", n, got)
		}
	}
}
