package merkle_test

import (
	"math"
	"math/bits"
	"slices"
	"testing"

	"rivermark/api"
	"rivermark/hash"
	"rivermark/merkle"
)

// peaksOf returns the peaks of a tree as P3.5 says: the roots of the parts from the beginning on, the greatest first.
func peaksOf(t tree) api.Peaks {
	p := api.Peaks{Size: t.n}
	from := 0
	for k := api.MaxLeaves; k > 0; k /= 2 {
		if t.n&k != 0 {
			p.Tops = append(p.Tops, t.root(part{from, from + k}))
			from += k
		}
	}
	return p
}

func equalPeaks(p, q api.Peaks) bool { return p.Size == q.Size && slices.Equal(p.Tops, q.Tops) }

func TestPeaksExample(t *testing.T) {
	l := leaves(3)
	var p api.Peaks
	for i, want := range []api.Peaks{
		{Size: 1, Tops: l[:1]},
		{Size: 2, Tops: []api.Digest{merkle.Node(l[0], l[1])}},
		{Size: 3, Tops: []api.Digest{merkle.Node(l[0], l[1]), l[2]}},
	} {
		q, e := merkle.Append(p, l[i])
		if e != api.OK || !equalPeaks(q, want) {
			t.Errorf("P3.5: the peaks after %d elements are %v, %d, want %v", i+1, q, e, want)
		}
		p = q
	}
}

func TestPeaksGrow(t *testing.T) {
	l := leaves(300)
	p := api.Peaks{Tops: []api.Digest{}}
	for n := range l {
		if top, e := merkle.Top(p); e != api.OK || top != merkle.Root(l[:n]) {
			t.Fatalf("P3.6: the top after %d elements is %x, %d, not the root", n, top, e)
		}
		if want := peaksOf(treeOf(l[:n])); n < 70 && !equalPeaks(p, want) {
			t.Fatalf("P3.5: the peaks after %d elements are %v, want %v", n, p, want)
		}
		q, e := merkle.Append(p, l[n])
		if e != api.OK || q.Size != n+1 || len(q.Tops) != bits.OnesCount(uint(n+1)) {
			t.Fatalf("P3.5: the peaks after %d elements are %v, %d", n+1, q, e)
		}
		p = q
	}
}

func TestGreatPeaks(t *testing.T) {
	for _, n := range sizes() {
		tr := newTree(n, n/2, n-1, n)
		p := peaksOf(tr)
		if top, e := merkle.Top(p); e != api.OK || top != tr.root(tr.all()) {
			t.Errorf("P3.5: the top of %d elements is %x, %d, not the root", n, top, e)
		}
		q, e := merkle.Append(p, tr.at(n))
		if n == api.MaxLeaves {
			if e != api.ErrLimit || !equalPeaks(q, api.Peaks{}) {
				t.Errorf("P3.5: more than MaxLeaves elements: %v, %d", q, e)
			}
			continue
		}
		tr.n++
		if e != api.OK || !equalPeaks(q, peaksOf(tr)) {
			t.Errorf("P3.5: Append to %d elements: %v, %d", n, q, e)
		}
	}
}

func TestPeaksErrors(t *testing.T) {
	l := leaves(70)
	bad := []api.Peaks{{Size: -1}, {Size: math.MinInt}, {Size: math.MinInt, Tops: l[:1]}, {Size: math.MaxInt, Tops: l[:63]}, {Size: -1, Tops: l[:64]}, {Size: api.MaxLeaves + 1, Tops: l[:2]}, {Size: 2 * api.MaxLeaves, Tops: l[:1]}}
	for _, n := range []int{0, 1, 2, 3, 4, 5, 6, 7, 8, 255, 256, api.MaxLeaves - 1, api.MaxLeaves} {
		for tops := range 45 {
			if tops != bits.OnesCount(uint(n)) {
				bad = append(bad, api.Peaks{Size: n, Tops: l[:tops]})
			}
		}
	}
	for _, p := range bad {
		q, one := merkle.Append(p, l[0])
		top, two := merkle.Top(p)
		if one != api.ErrArg || two != api.ErrArg || !equalPeaks(q, api.Peaks{}) || top != (api.Digest{}) {
			t.Errorf("P3.5: %d tops of %d elements: %v, %d, %x, %d", len(p.Tops), p.Size, q, one, top, two)
		}
	}
	full := api.Peaks{Size: api.MaxLeaves, Tops: l[5:6]}
	if top, e := merkle.Top(full); e != api.OK || top != l[5] {
		t.Errorf("P3.5: the top of MaxLeaves elements is %x, %d", top, e)
	}
	if top, e := merkle.Top(api.Peaks{}); e != api.OK || top != hash.Of(32) {
		t.Errorf("P3.5: the top of no elements is %x, %d", top, e)
	}
}

// TestPeaksMemory checks that peaks stay, with what lies behind them, and that the ones of a longer list are new memory.
func TestPeaksMemory(t *testing.T) {
	l := leaves(60)
	for n := range 130 {
		room := slices.Clone(l)
		size := bits.OnesCount(uint(n))
		p := api.Peaks{Size: n, Tops: room[:size]}
		first, e := merkle.Append(p, l[50])
		second, f := merkle.Append(p, l[51])
		kept := slices.Clone(first.Tops)
		merkle.Top(p)
		if e != api.OK || f != api.OK || !slices.Equal(room, l) || p.Size != n {
			t.Fatalf("P3.5: Append to %d elements changes them: %d, %d", n, e, f)
		}
		clear(second.Tops[:cap(second.Tops)])
		if !slices.Equal(room, l) || !slices.Equal(first.Tops, kept) {
			t.Fatalf("P3.5: peaks after %d elements share memory", n+1)
		}
	}
}
