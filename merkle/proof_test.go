package merkle_test

import (
	"math"
	"math/rand"
	"slices"
	"testing"

	"rivermark/api"
	"rivermark/merkle"
)

// outside is integers that are no positions of a short list.
var outside = []int{-1, -2, math.MinInt, math.MaxInt, api.MaxLeaves, 1 << 32}

// subsets returns all ascending lists of positions of a list of n elements.
func subsets(n int) [][]int {
	all := [][]int{nil}
	for i := range n {
		for _, s := range all {
			all = append(all, append(slices.Clone(s), i))
		}
	}
	return all
}

func TestExamples(t *testing.T) {
	l := leaves(3)
	a, b, c := l[0], l[1], l[2]
	ab := merkle.Node(a, b)
	for _, x := range []struct {
		name string
		make func() ([]api.Digest, api.Errno)
		want []api.Digest
	}{
		{"P3.2: Inclusion of 0", func() ([]api.Digest, api.Errno) { return merkle.Inclusion(l, 0) }, []api.Digest{b, c}},
		{"P3.2: Inclusion of 1", func() ([]api.Digest, api.Errno) { return merkle.Inclusion(l, 1) }, []api.Digest{a, c}},
		{"P3.2: Inclusion of 2", func() ([]api.Digest, api.Errno) { return merkle.Inclusion(l, 2) }, []api.Digest{ab}},
		{"P3.3: Consistency of 0", func() ([]api.Digest, api.Errno) { return merkle.Consistency(l, 0) }, nil},
		{"P3.3: Consistency of 1", func() ([]api.Digest, api.Errno) { return merkle.Consistency(l, 1) }, []api.Digest{b, c}},
		{"P3.3: Consistency of 2", func() ([]api.Digest, api.Errno) { return merkle.Consistency(l, 2) }, []api.Digest{c}},
		{"P3.3: Consistency of 3", func() ([]api.Digest, api.Errno) { return merkle.Consistency(l, 3) }, nil},
		{"P3.4: Many of 0, 2", func() ([]api.Digest, api.Errno) { return merkle.Many(l, []int{0, 2}) }, []api.Digest{b}},
		{"P3.4: Many of 1", func() ([]api.Digest, api.Errno) { return merkle.Many(l, []int{1}) }, []api.Digest{a, c}},
		{"P3.4: Many of none", func() ([]api.Digest, api.Errno) { return merkle.Many(l, nil) }, []api.Digest{merkle.Node(ab, c)}},
		{"P3.4: Many of all", func() ([]api.Digest, api.Errno) { return merkle.Many(l, []int{0, 1, 2}) }, nil},
		{"P3.4: Many of an empty list", func() ([]api.Digest, api.Errno) { return merkle.Many(nil, nil) }, nil},
		{"P3.3: Consistency of an empty list", func() ([]api.Digest, api.Errno) { return merkle.Consistency(nil, 0) }, nil},
	} {
		if got, e := x.make(); e != api.OK || !slices.Equal(got, x.want) {
			t.Errorf("%s: %x, %d, want %x", x.name, got, e, x.want)
		}
	}
}

func TestInclusion(t *testing.T) {
	for n := range 40 {
		l := leaves(n)
		tr := treeOf(l)
		for i := range n {
			want := tr.inclusion(tr.all(), i)
			if got, e := merkle.Inclusion(l, i); e != api.OK || !slices.Equal(got, want) {
				t.Errorf("P3.2: Inclusion of %d of %d: %x, %d, want %x", i, n, got, e, want)
			}
		}
		for _, i := range append(outside, n, n+1) {
			if got, e := merkle.Inclusion(l, i); e != api.ErrArg || len(got) != 0 {
				t.Errorf("P3.2: Inclusion of %d of %d: %x, %d", i, n, got, e)
			}
		}
	}
}

func TestConsistency(t *testing.T) {
	for n := range 40 {
		l := leaves(n)
		tr := treeOf(l)
		for m := range n + 1 {
			var want []api.Digest
			if m > 0 {
				want = tr.consistency(tr.all(), m, true)
			}
			if got, e := merkle.Consistency(l, m); e != api.OK || !slices.Equal(got, want) {
				t.Errorf("P3.3: Consistency of %d of %d: %x, %d, want %x", m, n, got, e, want)
			}
		}
		for _, m := range append(outside, n+1, n+2) {
			if got, e := merkle.Consistency(l, m); e != api.ErrArg || len(got) != 0 {
				t.Errorf("P3.3: Consistency of %d of %d: %x, %d", m, n, got, e)
			}
		}
	}
}

func TestMany(t *testing.T) {
	for n := range 10 {
		l := leaves(n)
		tr := treeOf(l)
		for _, places := range subsets(n) {
			want := tr.many(tr.all(), places)
			if got, e := merkle.Many(l, places); e != api.OK || !slices.Equal(got, want) {
				t.Errorf("P3.4: Many of %v of %d: %x, %d, want %x", places, n, got, e, want)
			}
		}
	}
	r := rand.New(rand.NewSource(32))
	for _, n := range []int{50, 64, 65, 300} {
		l := leaves(n)
		tr := treeOf(l)
		for range 20 {
			places := r.Perm(n)[:r.Intn(n)]
			slices.Sort(places)
			want := tr.many(tr.all(), places)
			if got, e := merkle.Many(l, places); e != api.OK || !slices.Equal(got, want) {
				t.Errorf("P3.4: Many of %v of %d: %d", places, n, e)
			}
		}
	}
}

func TestManyErrors(t *testing.T) {
	for n := range 6 {
		l := leaves(n)
		for _, i := range append(outside, n, n+1) {
			for _, places := range [][]int{{i}, {i, i}, {0, i}, {i, 0}, {0, 1, i}} {
				if got, e := merkle.Many(l, places); e != api.ErrArg || len(got) != 0 {
					t.Errorf("P3.4: Many of %v of %d: %x, %d", places, n, got, e)
				}
			}
		}
	}
	for _, places := range [][]int{{0, 0}, {1, 0}, {4, 4}, {0, 2, 1}, {0, 1, 1, 2}, {3, 4, 0}, {2, 3, 2}} {
		if got, e := merkle.Many(leaves(5), places); e != api.ErrArg || len(got) != 0 {
			t.Errorf("P3.4: Many of %v of 5: %x, %d", places, got, e)
		}
	}
}

// TestMemory checks that arguments, and what lies behind them, stay, and that results are new memory.
func TestMemory(t *testing.T) {
	for n := 1; n < 12; n++ {
		behind := leaves(n + 20)
		l, kept := behind[:n], slices.Clone(behind)
		places := []int{0, n - 1, 77, 77}[:min(n, 2)]
		for i := range n {
			one, _ := merkle.Inclusion(l, i)
			two, _ := merkle.Consistency(l, i+1)
			three, _ := merkle.Many(l, places)
			four, _ := merkle.Many(l, nil)
			for _, path := range [][]api.Digest{one, two, three, four} {
				clear(path[:cap(path)])
			}
		}
		if !slices.Equal(behind, kept) || !slices.Equal(places[:4], []int{0, n - 1, 77, 77}) {
			t.Fatalf("proofs of a list of %d elements change it, or share its memory", n)
		}
	}
}
