package journal_test

import (
	"math/rand"
	"slices"
	"testing"

	"rivermark/api"
	"rivermark/disk"
	"rivermark/hash"
	"rivermark/journal"
	"rivermark/wire"
)

// checkOpen checks that Open finds what the chapter says of a disk without open writes.
func checkOpen(t *testing.T, what string, d *disk.Disk, z zone) view {
	t.Helper()
	want, got := should(d, z), does(t, d, z)
	if got != want {
		t.Fatalf("%s: Open finds %+v, not %+v", what, got, want)
	}
	return want
}

// TestWhichHeader checks which of some headers counts.
func TestWhichHeader(t *testing.T) {
	z := zone{1, 22}
	for i, x := range []struct {
		heads [4]head // both of the side 0, both of the side 1; without a session none
		side  int     // the active one; -1 is none
		which int     // the copy that counts
	}{
		{[4]head{}, -1, 0},
		{[4]head{{1, 1, ""}}, 0, 0},
		{[4]head{1: {1, 1, ""}}, 0, 1},
		{[4]head{2: {1, 1, ""}}, 1, 0},
		{[4]head{3: {1, 1, ""}}, 1, 1},
		{[4]head{3: {0, 1, ""}}, 1, 1},
		{[4]head{{0, 4, ""}, {}, {1, 1, ""}}, 1, 0},
		{[4]head{{3, 4, ""}, {}, {2, 9, ""}}, 0, 0},
		{[4]head{{3, 4, ""}, {}, {3, 9, ""}}, 0, 0},
		{[4]head{1: {3, 4, ""}, 3: {3, 9, ""}}, 0, 1},
		{[4]head{1: {3, 4, ""}, 3: {4, 3, ""}}, 1, 1},
		{[4]head{{1, 9, ""}, {2, 3, ""}}, 0, 1},
		{[4]head{{2, 3, ""}, {1, 9, ""}}, 0, 0},
		{[4]head{{2, 3, ""}, {2, 9, ""}}, 0, 1},
		{[4]head{{2, 9, ""}, {2, 3, ""}}, 0, 0},
		{[4]head{{2, 9, "a"}, {2, 9, "b"}}, 0, 0},
		{[4]head{{2, 9, "b"}, {2, 9, "a"}}, 0, 0},
		{[4]head{{2, 9, "b"}, {2, 9, ""}, {1, 5, ""}, {3, 1, ""}}, 1, 1},
		{[4]head{{4, 9, ""}, {1, 3, ""}, {3, 5, ""}, {3, 6, ""}}, 0, 0},
		{[4]head{{4, 9, ""}, {5, 3, ""}, {5, 1, ""}, {5, 4, ""}}, 0, 1},
		{[4]head{{4, 9, ""}, {5, 3, ""}, {6, 1, ""}, {6, 4, ""}}, 1, 1},
		{[4]head{{256, 9, ""}, {255, 3, ""}, {65536, 1, ""}, {1, 4, ""}}, 1, 0},
		{[4]head{{1 << 31, 9, ""}, {1<<32 - 1, 3, ""}, {1, 1, ""}, {1, 4, ""}}, 0, 1},
	} {
		d := disk.New(24)
		// A record for each header says which of them counts: in slots of the side, one after the other, each for all copies of the slot 0.
		for n, h := range x.heads {
			if h.session == 0 {
				continue
			}
			side := n / 2
			at := z.side(side) + n%2
			take(t, d, []step{{at, h.sector(side)}})
			f := piece{h.generation, 1, h.after(side), 3, 1, string(rune('a' + n%2))}
			take(t, d, []step{{at + 2, f.sector(side, 0)}})
		}
		must(t, "P9.2", d.Sync())
		v := checkOpen(t, "P10.2", d, z)
		if x.side < 0 {
			if v.e != api.ErrCorrupt {
				t.Errorf("P10.2: the case %d has no header, but %+v", i, v)
			}
			continue
		}
		h := x.heads[2*x.side+x.which]
		if want := `"` + string(rune('a'+x.which)) + `" `; v.e != api.OK || v.generation != h.generation || v.records != want {
			t.Errorf("P10.2: the case %d finds %+v, not the generation %d with %s", i, v, h.generation, want)
		}
	}
}

// TestHeaderText checks that what does not begin with the text is no header, also with the digest that a header would have.
func TestHeaderText(t *testing.T) {
	z := zone{0, 20}
	for _, text := range []string{"QUIETJNM", "quietjnl", "\x00UIETJNL", zeros(8)} {
		for _, generation := range []int{1, 9} {
			body := text + four(generation) + four(9) + zeros(32)
			d := hash.Of(api.TagHeader, body, string(wire.Int(0)))
			s := api.Sector([]byte(body + string(d[:])))
			none := on(t, 20, twice(0, s)...)()
			if v := checkOpen(t, "P10.2", none, z); v.e != api.ErrCorrupt {
				t.Errorf("P10.2: with headers that begin with %q, Open returns %d", text, v.e)
			}
			one := on(t, 20, step{0, s}, step{1, head{2, 3, ""}.sector(0)})()
			if v := checkOpen(t, "P10.2", one, z); v.generation != 2 || v.session != 4 {
				t.Errorf("P10.2: with a header that begins with %q, Open finds %+v", text, v)
			}
		}
	}
}

// TestWhichFragments checks where the chain ends.
func TestWhichFragments(t *testing.T) {
	z := zone{0, 30} // 6 slots a side
	h := head{7, 3, ""}
	good := func(link string, flags int, content string) piece {
		return piece{7, 3, link, flags, len(content), content}
	}
	// behind returns a record behind another piece, which says whether the chain goes on.
	behind := func(f piece, flags int) piece { return good(f.after(0, 0), flags, "next") }
	at := h.after(0)
	other := head{7, 4, ""}
	newer := good(at, 3, "newer")
	newer.session = 4
	for i, x := range []struct {
		copies [2]*piece
		next   *piece // both copies of the slot 1
		want   string
	}{
		{[2]*piece{}, nil, ``},
		{[2]*piece{new(good(at, 3, "a"))}, nil, `"a" `},
		{[2]*piece{nil, new(good(at, 3, "a"))}, nil, `"a" `},
		{[2]*piece{new(good(at, 3, "a"))}, new(behind(good(at, 3, "a"), 3)), `"a" "next" `},
		{[2]*piece{new(good(at, 3, ""))}, new(behind(good(at, 3, ""), 3)), `"" "next" `},
		{[2]*piece{new(good(at, 1, long(30)))}, nil, ``},
		{[2]*piece{new(good(at, 1, "a"))}, new(behind(good(at, 1, "a"), 2)), `"anext" `},
		{[2]*piece{new(good(at, 1, "a"))}, new(behind(good(at, 1, "a"), 0)), ``},
		{[2]*piece{new(good(at, 1, "a"))}, new(behind(good(at, 1, "a"), 3)), ``},
		{[2]*piece{new(good(at, 1, "a"))}, new(behind(good(at, 1, "a"), 1)), ``},
		{[2]*piece{new(good(at, 2, "a"))}, new(behind(good(at, 2, "a"), 3)), ``},
		{[2]*piece{new(good(at, 0, "a"))}, new(behind(good(at, 0, "a"), 2)), ``},
		{[2]*piece{new(good(at, 3, "a"))}, new(behind(good(at, 3, "a"), 2)), `"a" `},
		{[2]*piece{new(good(at, 3, "a"))}, new(behind(good(at, 3, "a"), 0)), `"a" `},
		{[2]*piece{new(good(at, 3, "a"))}, new(behind(good(at, 3, "a"), 1)), `"a" `},
		{[2]*piece{new(good(other.after(0), 3, "a"))}, nil, ``},
		{[2]*piece{new(good(zeros(8), 3, "a"))}, nil, ``},
		{[2]*piece{{6, 3, at, 3, 1, "a"}}, nil, ``},
		{[2]*piece{{8, 3, at, 3, 1, "a"}}, nil, ``},
		{[2]*piece{{7, 3, at, 3, 30, "a"}}, nil, `"a` + nulls(29) + `" `},
		{[2]*piece{{7, 3, at, 3, 31, "a"}}, nil, ``},
		{[2]*piece{{7, 3, at, 3, 255, "a"}}, nil, ``},
		{[2]*piece{{7, 3, at, 3, 1, "abc"}}, nil, `"a" `},
		{[2]*piece{new(good(at, 3, "a")), new(good(at, 3, "b"))}, nil, `"a" `},
		{[2]*piece{new(good(at, 3, "b")), new(good(at, 3, "a"))}, nil, `"b" `},
		{[2]*piece{new(good(at, 3, "a")), &newer}, nil, `"newer" `},
		{[2]*piece{&newer, new(good(at, 3, "a"))}, nil, `"newer" `},
		{[2]*piece{&newer, new(good(at, 3, "a"))}, new(behind(newer, 3)), `"newer" "next" `},
		{[2]*piece{&newer, new(good(at, 3, "a"))}, new(behind(good(at, 3, "a"), 3)), `"newer" `},
		{[2]*piece{{7, 9, at, 3, 31, "x"}, new(good(at, 3, "a"))}, nil, `"a" `},
		{[2]*piece{{6, 9, at, 3, 1, "x"}, new(good(at, 3, "a"))}, nil, `"a" `},
		{[2]*piece{{7, 9, other.after(0), 3, 1, "x"}, new(good(at, 3, "a"))}, nil, `"a" `},
		{[2]*piece{new(good(at, 3, "a")), {7, 9, other.after(0), 3, 1, "x"}}, nil, `"a" `},
	} {
		d := disk.New(30)
		take(t, d, twice(0, h.sector(0)))
		for n, f := range x.copies {
			if f != nil {
				take(t, d, z.one(0, 0, n, *f))
			}
		}
		if x.next != nil {
			take(t, d, twice(4, x.next.sector(0, 1)))
		}
		must(t, "P9.2", d.Sync())
		if v := checkOpen(t, "P10.2", d, z); v.records != x.want {
			t.Errorf("P10.2: the case %d finds %s, not %s", i, v.records, x.want)
		}
	}
}

// nulls returns n zero bytes as a quoted text has them.
func nulls(n int) string {
	s := ""
	for range n {
		s += `\x00`
	}
	return s
}

// TestIncompleteRecord checks that the fragments of a record without its last one are written over.
func TestIncompleteRecord(t *testing.T) {
	z := zone{0, 30}
	h := head{1, 1, ""}
	all, _ := z.steps(1, 2, h.after(0), 0, 0, "a", long(61))
	for n := 2; n <= 8; n += 2 {
		d := on(t, 30, slices.Concat(twice(0, h.sector(0)), all[:n])...)()
		checkOpen(t, "P10.2", d, z)
		j := mustOpen(t, d, z)
		if n == 8 {
			checkJournal(t, "P10.2", j, 1, 2, "a", long(61))
			continue
		}
		checkJournal(t, "P10.2", j, 1, 5, "a")
		must(t, "P10.4", j.Append("b"), j.Append("c"), j.Commit())
		checkJournal(t, "P10.8", mustOpen(t, d, z), 1, 3, "a", "b", "c")
	}
}

// TestGreatSessions checks the greatest sessions and generations, and the order of the errors.
func TestGreatSessions(t *testing.T) {
	z := zone{4, 25}
	const top = 1<<32 - 1
	h := head{5, 2, ""}
	with := func(l ...step) *disk.Disk { return on(t, 40, append(twice(z.first, h.sector(0)), l...)...)() }
	for side := range 2 {
		for which := range 2 {
			for slot := range z.slots() {
				for _, session := range []int{top, top - 1} {
					d := with(z.one(side, slot, which, piece{1, session, "linklink", 0, 99, "x"})...)
					checkOpen(t, "P10.2", d, z)
					checkSessions(t, d, z, session)
				}
			}
			for _, session := range []int{top, top - 1} {
				d := with(step{z.side(side) + which, head{3, session, ""}.sector(side)})
				checkOpen(t, "P10.2", d, z)
				checkSessions(t, d, z, session)
			}
		}
	}
	// Without a header, the greatest session does not matter.
	d := on(t, 40, z.one(1, 2, 0, piece{1, top, "linklink", 3, 1, "x"})...)()
	if _, e := journal.Open(d, z.first, z.n); e != api.ErrCorrupt {
		t.Errorf("P10.2: Open without a header returns %d", e)
	}
	if e := journal.Format(d, z.first, z.n); e != api.ErrLimit {
		t.Errorf("P10.1: Format with too great a session returns %d", e)
	}
	if d.Steps() != 2 {
		t.Errorf("P10.1: Format with too great a session does steps")
	}
	d.Arm(0)
	if e := journal.Format(d, z.first, z.n); e != api.ErrLimit || d.Down() {
		t.Errorf("P10.1: Format returns %d before it does steps", e)
	}
	d.Sync()
	if e := journal.Format(d, z.first, z.n); e != api.ErrDown {
		t.Errorf("P10.1: Format returns %d when the disk is down", e)
	}
	if _, e := journal.Open(d, z.first, z.n); e != api.ErrDown {
		t.Errorf("P10.2: Open returns %d when the disk is down", e)
	}
}

// checkSessions checks what Format and Open say of a part with a session that is the greatest one, or the one before.
func checkSessions(t *testing.T, d *disk.Disk, z zone, session int) {
	t.Helper()
	want := api.OK
	if session == 1<<32-1 {
		want = api.ErrLimit
	}
	if _, e := journal.Open(d, z.first, z.n); e != want {
		t.Errorf("P10.2: with the session %d Open returns %d", session, e)
	}
	if e := journal.Format(d, z.first, z.n); e != want {
		t.Errorf("P10.1: with the session %d Format returns %d", session, e)
	}
	// The journal that was just made has the greatest session itself.
	if _, e := journal.Open(d, z.first, z.n); e != api.ErrLimit {
		t.Errorf("P10.2: with the greatest session Open returns %d", e)
	}
}

// TestGreatGenerations checks that generations end with the greatest one.
func TestGreatGenerations(t *testing.T) {
	z := zone{0, 16}
	const top = 1<<32 - 1
	for side := range 2 {
		d := on(t, 16, twice(z.side(side), head{top - 1, 2, ""}.sector(side))...)()
		j := mustOpen(t, d, z)
		must(t, "P10.5", j.Rewrite([]string{"a"}))
		checkJournal(t, "P10.5", j, top, 2, "a")
		checkJournal(t, "P10.2", mustOpen(t, d.Crash(nil), z), top, 2, "a")
		steps := d.Steps()
		refuse := func() {
			t.Helper()
			for _, x := range []struct {
				l    []string
				want api.Errno
			}{{nil, api.ErrLimit}, {[]string{"b"}, api.ErrLimit}, {[]string{"", "", "", ""}, api.ErrFull}, {[]string{"", "", "", "", long(1001)}, api.ErrArg}} {
				if e := j.Rewrite(x.l); e != x.want {
					t.Errorf("P10.5: Rewrite with the greatest generation returns %d, not %d", e, x.want)
				}
			}
			checkJournal(t, "P10.5", j, top, 2, "a")
		}
		refuse()
		if d.Steps() != steps {
			t.Errorf("P10.5: Rewrite with the greatest generation does steps")
		}
		d.Arm(0)
		d.Sync()
		refuse()
	}
}

// somewhere returns a link that is often one of those that are there.
func somewhere(r *rand.Rand, x looked) string {
	links := []string{zeros(8), "linklink"}
	for side := range 2 {
		for _, h := range x.heads[side] {
			links = append(links, h.after(side), h.after(side))
		}
		for slot, both := range x.pieces[side] {
			for _, f := range both {
				if f.size >= 0 {
					links = append(links, f.after(side, slot))
				}
			}
		}
	}
	return links[r.Intn(len(links))]
}

// forge returns a write of any header or fragment to its place.
func forge(r *rand.Rand, d *disk.Disk, z zone) step {
	x := look(d, z)
	side, which := r.Intn(2), r.Intn(2)
	if r.Intn(4) == 0 {
		h := head{r.Intn(4), r.Intn(4), []string{"", "a"}[r.Intn(2)]}
		return step{z.side(side) + which, h.sector(side)}
	}
	slot := min(r.Intn(z.slots()), r.Intn(z.slots()))
	if r.Intn(2) == 0 && len(x.heads[0])+len(x.heads[1]) > 0 {
		// One that goes on from the chain, or is the other copy of its last slot.
		s, h := x.active()
		l := x.chain()
		link, k := h.after(s), len(l)
		if k == x.slots() || k > 0 && r.Intn(3) == 0 {
			k--
		}
		if k > 0 {
			link = l[k-1].after(s, k-1)
		}
		flags := 1 + 2*r.Intn(2)
		if k > 0 && l[k-1].flags < 2 && r.Intn(8) > 0 {
			flags--
		}
		return z.one(s, k, which, piece{h.generation, r.Intn(4), link, flags, r.Intn(33), long(r.Intn(31))})[0]
	}
	f := piece{r.Intn(4), r.Intn(4), somewhere(r, x), r.Intn(4), r.Intn(33), long(r.Intn(31))}
	return z.one(side, slot, which, f)[0]
}

// TestOpenAnything checks Open on disks with any headers and fragments, some of them rotten, spoilt, or in other places.
func TestOpenAnything(t *testing.T) {
	r := rand.New(rand.NewSource(102))
	zones := []zone{{0, 8}, {1, 12}, {0, 17}, {2, 26}}
	found := map[int]int{}
	for range 1500 {
		z := zones[r.Intn(len(zones))]
		d := disk.New(z.n + 4)
		for range r.Intn(30) {
			switch i := r.Intn(d.Size()); r.Intn(16) {
			case 0:
				d.Rot(i)
			case 1:
				d.Flip(i, r.Intn(512))
			case 2:
				s, _ := d.Read(i)
				take(t, d, []step{{r.Intn(d.Size()), s}})
			default:
				take(t, d, []step{forge(r, d, z)})
			}
			must(t, "P9.2", d.Sync())
			v := checkOpen(t, "P10.2", d, z)
			found[len(v.records)]++
		}
	}
	if len(found) < 20 {
		t.Errorf("these disks have few records: %v", found)
	}
}
