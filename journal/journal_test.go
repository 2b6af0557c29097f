package journal_test

import (
	"math"
	"slices"
	"strings"
	"testing"

	"rivermark/api"
	"rivermark/disk"
	"rivermark/hash"
	"rivermark/journal"
	"rivermark/wire"
)

// must checks that calls have no error.
func must(t *testing.T, what string, errors ...api.Errno) {
	t.Helper()
	for i, e := range errors {
		if e != api.OK {
			t.Fatalf("%s: the call %d returns %d", what, i, e)
		}
	}
}

// mustOpen opens a journal.
func mustOpen(t *testing.T, d *disk.Disk, z zone) *journal.Journal {
	t.Helper()
	j, e := journal.Open(d, z.first, z.n)
	must(t, "P10.2", e)
	return j
}

// formatted returns a disk with an empty journal.
func formatted(t *testing.T, size int, z zone) *disk.Disk {
	t.Helper()
	d := disk.New(size)
	must(t, "P10.1", journal.Format(d, z.first, z.n))
	return d
}

// checkJournal checks what a journal says.
func checkJournal(t *testing.T, what string, j *journal.Journal, generation, room int, records ...string) {
	t.Helper()
	if j.Generation() != generation || j.Room() != room || !slices.Equal(j.Records(), records) {
		t.Fatalf("%s: generation %d, room %d, records %q; not %d, %d, %q", what, j.Generation(), j.Room(), j.Records(), generation, room, records)
	}
}

// long returns a record of n bytes.
func long(n int) string {
	var b strings.Builder
	for i := range n {
		b.WriteByte(byte(i*i + i/30 + n))
	}
	return b.String()
}

func TestExamples(t *testing.T) {
	z := zone{0, 20}
	d := formatted(t, 20, z)
	x := long(31)
	j := mustOpen(t, d, z)
	checkJournal(t, "P10.3", j, 1, 4)
	must(t, "P10.4", j.Append("a"), j.Append(x))
	checkJournal(t, "P10.3", j, 1, 1, "a", x)
	must(t, "P10.4", j.Commit())
	j = mustOpen(t, d, z)
	checkJournal(t, "P10.2", j, 1, 1, "a", x)
	must(t, "P10.4", j.Append("b"))
	d = d.Crash([]int{0})
	j = mustOpen(t, d, z)
	checkJournal(t, "P10.6", j, 1, 1, "a", x)
	if e := j.Append(x); e != api.ErrFull {
		t.Errorf("P10.4: Append without room returns %d", e)
	}
	must(t, "P10.5", j.Rewrite([]string{"c"}))
	checkJournal(t, "P10.5", j, 2, 3, "c")
	must(t, "P10.7", d.Rot(10), d.Rot(13))
	checkJournal(t, "P10.7", mustOpen(t, d, z), 2, 3, "c")
}

// TestArguments checks which parts are not on a disk, also when it is down.
func TestArguments(t *testing.T) {
	for _, down := range []bool{false, true} {
		d := disk.New(24)
		if down {
			d.Arm(0)
			d.Sync()
		}
		for _, z := range []zone{{0, 7}, {0, 4}, {0, 0}, {0, -1}, {0, -8}, {0, math.MinInt}, {-1, 8}, {-1, 24}, {-8, 16}, {math.MinInt, 8}, {math.MinInt, math.MinInt}, {0, 25}, {1, 24}, {17, 8}, {24, 8}, {25, 8}, {100, 8}, {math.MaxInt, 8}, {math.MaxInt - 7, 8}, {8, math.MaxInt}, {8, math.MaxInt - 7}, {math.MaxInt, math.MaxInt}, {0, math.MaxInt}, {1 << 62, 1 << 62}, {1 << 32, 8}, {8, 1 << 32}} {
			if e := journal.Format(d, z.first, z.n); e != api.ErrArg {
				t.Errorf("P10.1: Format of %v returns %d", z, e)
			}
			if j, e := journal.Open(d, z.first, z.n); e != api.ErrArg || j != nil {
				t.Errorf("P10.2: Open of %v returns %v, %d", z, j, e)
			}
		}
		if d.Steps() != 0 || len(d.Open()) != 0 {
			t.Errorf("P10.1: steps for parts that are not on the disk")
		}
		for _, z := range []zone{{0, 8}, {0, 24}, {16, 8}, {15, 9}, {1, 23}} {
			want := []api.Errno{api.OK, api.OK}
			if down {
				want = []api.Errno{api.ErrDown, api.ErrDown}
			}
			e := journal.Format(d, z.first, z.n)
			_, f := journal.Open(d, z.first, z.n)
			if !slices.Equal([]api.Errno{e, f}, want) {
				t.Errorf("P10.1, P10.2: for %v Format returns %d, and Open %d", z, e, f)
			}
		}
	}
}

// TestRoom checks how many slots a side has, and that records fill just these.
func TestRoom(t *testing.T) {
	for n := 8; n <= 41; n++ {
		z := zone{3, n}
		d := formatted(t, n+3, z)
		j := mustOpen(t, d, z)
		slots := (n/2 - 2) / 2
		checkJournal(t, "P10.3", j, 1, slots)
		var all []string
		for k := range slots {
			if e := j.Append(long(30*(slots-k) + 1)); e != api.ErrFull {
				t.Fatalf("P10.4: Append of more than there is room for returns %d", e)
			}
			must(t, "P10.4", j.Append(long(k)))
			all = append(all, long(k))
			checkJournal(t, "P10.3", j, 1, slots-k-1, all...)
		}
		if e := j.Append(""); e != api.ErrFull {
			t.Errorf("P10.4: Append without room returns %d", e)
		}
		must(t, "P10.4", j.Commit())
		checkJournal(t, "P10.2", mustOpen(t, d.Crash(nil), z), 1, 0, all...)
		if e := j.Rewrite(append(all, "")); e != api.ErrFull {
			t.Errorf("P10.5: Rewrite without room returns %d", e)
		}
		one := long(min(30*slots, 1000))
		must(t, "P10.5", j.Rewrite([]string{one}))
		checkJournal(t, "P10.5", j, 2, 0, one)
		must(t, "P10.5", j.Rewrite(all))
		checkJournal(t, "P10.5", j, 3, 0, all...)
		checkJournal(t, "P10.2", mustOpen(t, d.Crash(nil), z), 3, 0, all...)
	}
}

// TestOutside checks that sectors that are not of a part, and those at the end of a side that are no slot, are not touched, and do not matter.
func TestOutside(t *testing.T) {
	for n := 8; n <= 24; n++ {
		z := zone{5, n}
		d := disk.New(n + 10)
		own := map[int]bool{}
		for side := range 2 {
			for i := range 2 + 2*z.slots() {
				own[z.side(side)+i] = true
			}
		}
		// What would be a header, or a fragment, of a session that is too great, in another place.
		for i := range d.Size() {
			if !own[i] {
				s := piece{1, 4294967295, zeros(8), 3, 0, ""}.sector((i-5)/(n/2), (i-5)%(n/2)/2-1)
				if i%2 == 0 {
					s = head{9, 4294967295, ""}.sector(i % 4 / 2)
				}
				must(t, "P9.2", d.Write(i, s))
			}
		}
		must(t, "P9.2", d.Sync())
		before := d.Crash(nil)
		must(t, "P10.1", journal.Format(d, z.first, z.n))
		j := mustOpen(t, d, z)
		for range 2 {
			for range z.slots() {
				must(t, "P10.4", j.Append("x"))
			}
			must(t, "P10.5", j.Rewrite(slices.Repeat([]string{"y"}, z.slots())), j.Rewrite(nil))
		}
		for i := range d.Size() {
			s, _ := d.Read(i)
			u, _ := before.Read(i)
			if own[i] == (s == u) {
				t.Errorf("the sector %d of a disk with a journal on %v: written: %t", i, z, s != u)
			}
		}
	}
}

// TestNeighbours checks that journals on one disk do not touch each other.
func TestNeighbours(t *testing.T) {
	d := disk.New(60)
	zones := []zone{{0, 20}, {20, 17}, {37, 23}}
	var all []*journal.Journal
	for _, z := range zones {
		must(t, "P10.1", journal.Format(d, z.first, z.n))
		all = append(all, mustOpen(t, d, z))
	}
	for i, j := range all {
		must(t, "P10.4", j.Append(long(i)), j.Append(long(i+10)))
		must(t, "P10.5", all[2-i].Rewrite([]string{"r", long(i)}))
	}
	must(t, "P10.4", all[0].Commit())
	d = d.Crash(nil)
	checkJournal(t, "P10.2", mustOpen(t, d, zones[0]), 2, 2, "r", long(2))
	checkJournal(t, "P10.2", mustOpen(t, d, zones[1]), 2, 1, "r", long(1))
	checkJournal(t, "P10.2", mustOpen(t, d, zones[2]), 2, 0, "r", long(0), long(2), long(12))
}

// TestTooLong checks the greatest records, and the order of the errors of Append and Rewrite.
func TestTooLong(t *testing.T) {
	wide, small := zone{0, 300}, zone{0, 12}
	for _, n := range []int{999, 1000, 1001, 1020, 5000, 100000} {
		want := api.OK
		if n > 1000 {
			want = api.ErrArg
		}
		j := mustOpen(t, formatted(t, 300, wide), wide)
		if e := j.Append(long(n)); e != want {
			t.Errorf("P10.4: Append of %d bytes returns %d", n, e)
		}
		if e := j.Rewrite([]string{"x", long(n)}); e != want {
			t.Errorf("P10.5: Rewrite with %d bytes returns %d", n, e)
		}
	}
	d := formatted(t, 12, small)
	j := mustOpen(t, d, small)
	must(t, "P10.4", j.Append("a"))
	before := d.Steps()
	check := func(what string, e, want api.Errno) {
		t.Helper()
		if e != want {
			t.Errorf("%s: %d, not %d", what, e, want)
		}
		checkJournal(t, what, j, 1, 1, "a")
	}
	refuse := func() {
		t.Helper()
		check("P10.4: Append, too long and no room", j.Append(long(1001)), api.ErrArg)
		check("P10.4: Append, no room", j.Append(long(31)), api.ErrFull)
		check("P10.5: Rewrite, one too long and no room", j.Rewrite([]string{"", "", "", long(1001)}), api.ErrArg)
		check("P10.5: Rewrite, too many", j.Rewrite([]string{"", "", ""}), api.ErrFull)
		check("P10.5: Rewrite, too much", j.Rewrite([]string{long(61)}), api.ErrFull)
		check("P10.5: Rewrite, too much together", j.Rewrite([]string{long(30), long(31)}), api.ErrFull)
	}
	refuse()
	if d.Steps() != before {
		t.Error("P10.4, P10.5: steps of calls that are refused")
	}
	// Now with a disk that is down.
	d.Arm(0)
	d.Sync()
	refuse()
	check("P10.4: Append", j.Append("b"), api.ErrDown)
	check("P10.4: Commit", j.Commit(), api.ErrDown)
	check("P10.5: Rewrite", j.Rewrite([]string{"b"}), api.ErrDown)
	check("P10.5: Rewrite of nothing", j.Rewrite(nil), api.ErrDown)
}

// TestNewMemory checks that a journal shares no memory with whoever calls it.
func TestNewMemory(t *testing.T) {
	z := zone{0, 40}
	j := mustOpen(t, formatted(t, 40, z), z)
	must(t, "P10.4", j.Append("a"), j.Append("b"))
	l := j.Records()
	l[0] = "x"
	_ = append(l[:1], "y")
	checkJournal(t, "P10.3", j, 1, 7, "a", "b")
	given := []string{"c", "d", "e"}
	must(t, "P10.5", j.Rewrite(given[:2]))
	if !slices.Equal(given, []string{"c", "d", "e"}) {
		t.Errorf("P10.5: Rewrite changes its argument to %q", given)
	}
	given[0] = "x"
	must(t, "P10.4", j.Append("f"))
	if given[2] != "e" {
		t.Errorf("P10.4: Append changes an argument of Rewrite to %q", given)
	}
	checkJournal(t, "P10.5", j, 2, 6, "c", "d", "f")
	l = j.Records()
	must(t, "P10.4", j.Append("g"))
	_ = append(l, "y")
	checkJournal(t, "P10.3", j, 2, 5, "c", "d", "f", "g")
	if !slices.Equal(l, []string{"c", "d", "f"}) {
		t.Errorf("P10.3: Append changes what Records has returned to %q", l)
	}
}

// TestReadingDoesNoSteps checks that Open and what a journal is asked for are no steps, and work on a disk that fails at the next one.
func TestReadingDoesNoSteps(t *testing.T) {
	z := zone{2, 30}
	d := formatted(t, 40, z)
	must(t, "P10.4", mustOpen(t, d, z).Append("a"))
	steps := d.Steps()
	d.Arm(0)
	j := mustOpen(t, d, z)
	checkJournal(t, "P10.2", j, 1, 5, "a")
	if d.Steps() != steps || d.Down() {
		t.Error("P10.2: Open does steps")
	}
	if e := j.Append("b"); e != api.ErrDown {
		t.Errorf("P10.4: Append returns %d when the disk fails", e)
	}
	// What is known of the records does not come from the disk.
	checkJournal(t, "P10.3", j, 1, 5, "a")
}

// TestZerosAreNoFragment checks for all slots that any disk has room for that a sector of zeros is no fragment; so a blank disk has no session.
func TestZerosAreNoFragment(t *testing.T) {
	body := zeros(48)
	for side := range 2 {
		for slot := range api.MaxDisk/4 + 1 {
			if hash.Of(api.TagFragment, body, string(wire.Int(side)), string(wire.Int(slot))) == (api.Digest{}) {
				t.Errorf("zeros are a fragment of the slot %d of the side %d", slot, side)
			}
		}
	}
	z := zone{0, api.MaxDisk}
	d := formatted(t, api.MaxDisk, z)
	checkJournal(t, "P10.1", mustOpen(t, d, z), 1, api.MaxDisk/4-1)
}
