package journal_test

import (
	"iter"
	"math/rand"
	"slices"
	"strconv"
	"strings"
	"testing"

	"rivermark/api"
	"rivermark/disk"
	"rivermark/journal"
)

// failures yields all disks that can be found after a failure.
func failures(d *disk.Disk) iter.Seq[*disk.Disk] {
	open := d.Open()
	var outcomes []int
	for n, i := range open {
		if n == 0 || open[n-1] != i {
			outcomes = append(outcomes, 3)
		}
		outcomes[len(outcomes)-1]++
	}
	return func(yield func(*disk.Disk) bool) {
		keep := make([]int, len(outcomes))
		for {
			if !yield(d.Crash(keep)) {
				return
			}
			n := 0
			for n < len(keep) && keep[n] == outcomes[n]-1 {
				keep[n] = 0
				n++
			}
			if n == len(keep) {
				return
			}
			keep[n]++
		}
	}
}

// beginnings returns the beginnings of a list, each behind another list.
func beginnings(behind, l []string) [][]string {
	var all [][]string
	for n := range len(l) + 1 {
		all = append(all, slices.Concat(behind, l[:n]))
	}
	return all
}

// checkFound checks that Open finds one of some lists of records, and returns the journal and which one.
func checkFound(t *testing.T, what string, d *disk.Disk, z zone, can [][]string) (*journal.Journal, int) {
	t.Helper()
	j := mustOpen(t, d, z)
	which := slices.IndexFunc(can, func(l []string) bool { return slices.Equal(l, j.Records()) })
	if which < 0 {
		t.Fatalf("%s: %q, not one of %q", what, j.Records(), can)
	}
	return j, which
}

// appendAll appends records until the disk fails.
func appendAll(j *journal.Journal, l ...string) api.Errno {
	for _, s := range l {
		if e := j.Append(s); e != api.OK {
			return e
		}
	}
	return api.OK
}

// TestAppendAndFailures tries all failures after all numbers of steps of appending, and then again with what is appended to what was found: what was committed, or found, stays, and what was lost never comes back.
func TestAppendAndFailures(t *testing.T) {
	for _, x := range []struct {
		z                    zone
		committed, then, now []string
	}{
		{zone{0, 12}, nil, []string{"a", "b"}, []string{"x", "y"}},
		{zone{0, 12}, nil, []string{"a", "b"}, []string{"a", "c"}},
		{zone{1, 12}, nil, []string{long(31)}, []string{"a", "b"}},
		{zone{0, 12}, nil, []string{"a", "b"}, []string{long(60)}},
		{zone{0, 12}, []string{"c"}, []string{"a"}, []string{"a"}},
		{zone{1, 17}, []string{"c"}, []string{long(31)}, []string{"x"}},
		{zone{1, 17}, []string{"c"}, []string{"a", "b"}, []string{"b"}},
	} {
		found := map[int]int{}
		for n := range 6 {
			d := formatted(t, 20, x.z)
			j := mustOpen(t, d, x.z)
			must(t, "P10.4", appendAll(j, x.committed...), j.Commit())
			d.Arm(n)
			appendAll(j, x.then...)
			can := beginnings(x.committed, x.then)
			for first := range failures(d) {
				k, which := checkFound(t, "P10.6", first, x.z, can)
				found[which]++
				// Only what there is room for is appended.
				appendAll(k, x.now...)
				then := beginnings(can[which], k.Records()[len(can[which]):])
				for second := range failures(first) {
					checkFound(t, "P10.8", second, x.z, then)
				}
				must(t, "P10.4", k.Commit())
				checkFound(t, "P10.6", first.Crash(nil), x.z, then[len(then)-1:])
			}
		}
		if len(found) != len(x.then)+1 {
			t.Errorf("P10.6: of %q just these numbers are found: %v", x.then, found)
		}
	}
}

// TestRewriteAndFailures tries all failures after all numbers of steps of Rewrite, with a record that was appended, but not committed.
func TestRewriteAndFailures(t *testing.T) {
	z := zone{2, 12}
	for _, x := range []struct {
		old, pending, l []string
	}{
		{[]string{"a"}, []string{"b"}, []string{"c", "d"}},
		{[]string{"a"}, []string{"b"}, []string{long(40)}},
		{[]string{"a"}, []string{"b"}, nil},
		{[]string{"a", "b"}, nil, []string{"b"}},
		{nil, []string{"a"}, []string{"a", "b"}},
	} {
		for _, before := range []int{0, 1, 2} {
			steps := 4 + 2*slots(x.l)
			for n := range steps + 1 {
				d := formatted(t, 14, z)
				j := mustOpen(t, d, z)
				// Rewrite goes from either side to the other one, over nothing and over something.
				for range before {
					must(t, "P10.5", j.Rewrite([]string{"r", "s"}))
				}
				must(t, "P10.5", j.Rewrite(x.old))
				must(t, "P10.4", appendAll(j, x.pending...))
				d.Arm(n)
				if e := j.Rewrite(x.l); (e == api.OK) != (n == steps) {
					t.Fatalf("P10.5: Rewrite returns %d after %d steps", e, n)
				}
				can := append(beginnings(x.old, x.pending), x.l)
				switch {
				case n < steps-2: // the header is not written
					can = can[:len(can)-1]
				case n == steps:
					can = can[len(can)-1:]
				}
				generations := map[int]bool{}
				for found := range failures(d) {
					k, which := checkFound(t, "P10.6", found, z, can)
					generations[k.Generation()] = true
					checkAfterwards(t, found, z, k, can[which])
				}
				if want := map[bool]int{false: 1, true: 2}[n >= steps-2 && n < steps]; len(generations) != want {
					t.Errorf("P10.6: after %d steps of %d the generations %v are found", n, steps, generations)
				}
			}
		}
	}
}

// slots returns how many slots records fill.
func slots(l []string) int {
	n := 0
	for _, s := range l {
		n += len(pieces(1, 1, zeros(8), 0, 0, s))
	}
	return n
}

// checkAfterwards checks that a journal that was found goes on with its records, and with nothing else.
func checkAfterwards(t *testing.T, d *disk.Disk, z zone, j *journal.Journal, l []string) {
	t.Helper()
	if j.Append("x") == api.OK {
		checkFound(t, "P10.8", d.Crash([]int{0, 1}), z, beginnings(l, []string{"x"}))
		must(t, "P10.4", j.Commit())
		l = slices.Concat(l, []string{"x"})
	}
	checkFound(t, "P10.8", d.Crash(nil), z, [][]string{l})
	must(t, "P10.5", j.Rewrite([]string{"y"}))
	checkFound(t, "P10.8", d.Crash(nil), z, [][]string{{"y"}})
}

// story is a journal with what a failure of the power may leave of it.
type story struct {
	t         *testing.T
	r         *rand.Rand
	z         zone
	d         *disk.Disk
	j         *journal.Journal
	committed []string
	pending   []string        // appended since then
	next      []string        // by a Rewrite that has failed
	replaced  bool            // whether there was one
	gone      map[string]bool // what was lost, or replaced
	given     map[string]bool // all records
	seen      map[string]int  // how often what was found
}

func newStory(t *testing.T, r *rand.Rand, z zone, seen map[string]int) *story {
	s := &story{t: t, r: r, z: z, d: formatted(t, z.first+z.n, z), gone: map[string]bool{}, given: map[string]bool{}, seen: seen}
	s.j = mustOpen(t, s.d, z)
	return s
}

// record returns a record that was never given before.
func (s *story) record() string {
	name := strconv.Itoa(len(s.given)) + "."
	name += strings.Repeat("-", []int{0, s.r.Intn(20), s.r.Intn(100), 30 - len(name), 31 - len(name)}[s.r.Intn(5)])
	s.given[name] = true
	return name
}

func (s *story) append() {
	l, down := s.record(), s.d.Down()
	if e := s.j.Append(l); e == api.OK || e == api.ErrDown && !down {
		// If the disk fails now, nothing else can follow this one.
		s.pending = append(s.pending, l)
		return
	}
	s.gone[l] = true
}

func (s *story) commit() {
	if s.j.Commit() == api.OK {
		s.committed = slices.Concat(s.committed, s.pending)
		s.pending = nil
	}
}

// rewrite keeps some records, and gives others.
func (s *story) rewrite() {
	var l []string
	for _, x := range s.j.Records() {
		if s.r.Intn(2) == 0 {
			l = append(l, x)
		}
	}
	for range s.r.Intn(3) {
		l = append(l, s.record())
	}
	down := s.d.Down()
	switch e := s.j.Rewrite(l); {
	case e == api.OK:
		s.forget(l)
		s.committed, s.pending = l, nil
	case e == api.ErrDown && !down:
		s.next, s.replaced = l, true
	}
}

// forget notes that all records but those of a list are gone.
func (s *story) forget(l []string) {
	for x := range s.given {
		s.gone[x] = s.gone[x] || !slices.Contains(l, x)
	}
}

// open opens the journal again.
func (s *story) open() {
	if s.d.Down() {
		return
	}
	s.j, _ = checkFound(s.t, "P10.2", s.d, s.z, [][]string{slices.Concat(s.committed, s.pending)})
}

// fail lets the power fail, and opens what is found.
func (s *story) fail() {
	keep := make([]int, s.r.Intn(8))
	for i := range keep {
		keep[i] = s.r.Intn(1000)
	}
	can := beginnings(s.committed, s.pending)
	if s.replaced {
		can = append(can, s.next)
	}
	s.d = s.d.Crash(keep)
	j, which := checkFound(s.t, "P10.6", s.d, s.z, can)
	for _, x := range j.Records() {
		if s.gone[x] {
			s.t.Fatalf("P10.8: %q comes back", x)
		}
	}
	s.note(can, which)
	s.j, s.committed, s.pending, s.next, s.replaced = j, can[which], nil, nil, false
	s.forget(s.committed)
}

// note counts what was found after a failure.
func (s *story) note(can [][]string, which int) {
	what := "no appended ones"
	switch {
	case s.replaced && which == len(can)-1:
		what = "new records"
	case s.replaced:
		what = "old records"
	case len(s.pending) == 0:
		what = "committed ones"
	case which == len(s.pending):
		what = "all appended ones"
	case which > 0:
		what = "some appended ones"
	}
	s.seen[what]++
}

// TestLongStories does long sequences of calls with many failures.
func TestLongStories(t *testing.T) {
	r := rand.New(rand.NewSource(106))
	seen := map[string]int{}
	for range 1000 {
		s := newStory(t, r, zone{r.Intn(3), 8 + r.Intn(50)}, seen)
		for range 120 {
			switch r.Intn(14) {
			case 0, 1:
				s.rewrite()
			case 2:
				s.commit()
			case 3:
				s.open()
			case 4:
				s.d.Arm(r.Intn(12))
			case 5:
				s.fail()
			default:
				s.append()
			}
			if s.d.Down() && r.Intn(2) == 0 {
				s.fail()
			}
		}
		s.fail()
	}
	for _, what := range []string{"new records", "old records", "committed ones", "no appended ones", "some appended ones", "all appended ones"} {
		if seen[what] < 50 {
			t.Errorf("P10.6: %s are found just %d times", what, seen[what])
		}
	}
}

// spoilt returns a disk with some copies spoilt: of each pair of the part at most one, which one (0 or 1), or none (2), which says.
func spoilt(t *testing.T, r *rand.Rand, d *disk.Disk, z zone, which func(pair int) int) *disk.Disk {
	t.Helper()
	d = d.Crash(nil)
	for side := range 2 {
		for k := range z.slots() + 1 {
			copy := which(side*(z.slots()+1) + k)
			if copy == 2 {
				continue
			}
			i := z.side(side) + 2*k + copy
			switch r.Intn(4) {
			case 0:
				must(t, "P9.4", d.Rot(i))
			case 1: // what belongs to another place
				s := head{1000, 1000, ""}.sector(1 - side)
				if k > 0 {
					s = piece{1, 1000, "linklink", 3, 1, "x"}.sector(side, k)
				}
				take(t, d, append([]step{{i, s}}, syncs...))
			default:
				must(t, "P9.4", d.Flip(i, r.Intn(512)))
			}
		}
	}
	return d
}

// TestSpoiltCopies checks P10.7 for long sequences of calls without a failure since Format, on disks that had failed before.
func TestSpoiltCopies(t *testing.T) {
	r := rand.New(rand.NewSource(107))
	for range 300 {
		z := zone{r.Intn(3), 8 + r.Intn(40)}
		s := newStory(t, r, z, map[string]int{})
		for range r.Intn(30) {
			[]func(){s.append, s.append, s.commit, s.rewrite, s.fail}[r.Intn(5)]()
		}
		must(t, "P10.1", journal.Format(s.d, z.first, z.n))
		s.committed, s.pending = nil, nil
		s.open()
		for range 4 {
			for range r.Intn(20) {
				[]func(){s.append, s.append, s.append, s.append, s.commit, s.open, s.rewrite}[r.Intn(7)]()
			}
			s.commit()
			for range 5 {
				found := spoilt(t, r, s.d, z, func(int) int { return r.Intn(3) })
				j, _ := checkFound(t, "P10.7", found, z, [][]string{s.committed})
				if j.Generation() != s.j.Generation() || j.Room() != s.j.Room() {
					t.Fatalf("P10.7: generation %d, room %d, not %d, %d", j.Generation(), j.Room(), s.j.Generation(), s.j.Room())
				}
			}
			// It goes on with copies that are spoilt, which are written over later, or not.
			s.d = spoilt(t, r, s.d, z, func(int) int { return r.Intn(3) })
			s.open()
			if r.Intn(2) == 0 {
				s.append()
			}
			s.commit()
			s.open()
			// From here on other copies are spoilt.
			must(t, "P10.1", journal.Format(s.d, z.first, z.n))
			s.committed = nil
			s.open()
		}
	}
}

// TestEachCopy checks P10.7 for all choices of one copy, or none, of each pair, and for all single bits.
func TestEachCopy(t *testing.T) {
	z := zone{1, 12}
	r := rand.New(rand.NewSource(108))
	for rewrites := range 3 {
		d := formatted(t, 14, z)
		j := mustOpen(t, d, z)
		for range rewrites {
			must(t, "P10.5", j.Rewrite([]string{"r", "s"}))
		}
		want := []string{"r", "s"}
		if rewrites == 0 {
			must(t, "P10.4", j.Append(long(60)), j.Commit())
			want = []string{long(60)}
		}
		for choice := range 3 * 3 * 3 * 3 * 3 * 3 {
			found := spoilt(t, r, d, z, func(pair int) int {
				return choice / []int{1, 3, 9, 27, 81, 243}[pair] % 3
			})
			checkFound(t, "P10.7", found, z, [][]string{want})
		}
		for i := range d.Size() {
			for bit := range 512 {
				must(t, "P9.4", d.Flip(i, bit))
				checkJournal(t, "P10.7", mustOpen(t, d, z), rewrites+1, 0, want...)
				must(t, "P9.4", d.Flip(i, bit))
			}
		}
	}
}

// TestBothCopies checks that what has lost both copies ends the records, or the older ones are found, and that a bit of a sector is enough.
func TestBothCopies(t *testing.T) {
	z := zone{0, 20}
	d := formatted(t, 20, z)
	j := mustOpen(t, d, z)
	must(t, "P10.5", j.Rewrite([]string{"a", "b", "c"}))
	for k, want := range [][]string{nil, {"a"}, {"a", "b"}} {
		for bit := range 512 {
			found := d.Crash(nil)
			must(t, "P9.4", found.Flip(12+2*k, bit), found.Rot(13+2*k))
			checkJournal(t, "P10.2", mustOpen(t, found, z), 2, 4-k, want...)
			found = d.Crash(nil)
			must(t, "P9.4", found.Flip(12+2*k, bit), found.Flip(13+2*k, 511-bit))
			checkJournal(t, "P10.2", mustOpen(t, found, z), 2, 4-k, want...)
		}
	}
	for bit := range 512 {
		found := d.Crash(nil)
		must(t, "P9.4", found.Flip(10, bit), found.Flip(11, bit))
		checkJournal(t, "P10.2", mustOpen(t, found, z), 1, 4)
		must(t, "P9.4", found.Flip(0, bit), found.Rot(1))
		if _, e := journal.Open(found, 0, 20); e != api.ErrCorrupt {
			t.Fatalf("P10.2: without a header Open returns %d", e)
		}
	}
}
