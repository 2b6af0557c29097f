package journal_test

import (
	"slices"
	"testing"

	"rivermark/api"
	"rivermark/disk"
	"rivermark/journal"
)

var someZones = []zone{{0, 8}, {0, 20}, {3, 21}, {1, 22}, {2, 23}, {5, 90}}

// on returns what makes disks on which steps were done and synced.
func on(t *testing.T, size int, l ...step) func() *disk.Disk {
	return func() *disk.Disk {
		d := disk.New(size)
		take(t, d, l)
		must(t, "P9.2", d.Sync())
		return d
	}
}

// one returns the steps that write one copy of the sector of a slot.
func (z zone) one(side, slot, which int, f piece) []step {
	return []step{{z.side(side) + 2 + 2*slot + which, f.sector(side, slot)}}
}

// TestFormatSteps checks what Format writes, in which order, over nothing and over what gives the part a session.
func TestFormatSteps(t *testing.T) {
	for _, z := range someZones {
		last := z.slots() - 1
		for _, x := range []struct {
			session int
			under   []step
		}{
			{1, nil},
			{8, twice(z.first, head{1, 7, ""}.sector(0))},
			{8, []step{{z.first + 1, head{5, 7, ""}.sector(0)}}},
			{8, []step{{z.first, head{5, 7, ""}.sector(0)}, {z.first + 1, head{6, 6, ""}.sector(0)}}},
			{8, []step{{z.side(1), head{0, 7, ""}.sector(1)}}},
			{71235, []step{{z.side(1) + 1, head{3, 71234, ""}.sector(1)}, {z.first, head{4, 71, ""}.sector(0)}}},
			{1, []step{{z.first, head{3, 5, ""}.sector(1)}, {z.side(1), head{3, 5, ""}.sector(0)}, {z.first + 2, head{3, 5, ""}.sector(0)}}},
			{10, z.one(0, 0, 0, piece{4, 9, "linklink", 1, 0, ""})},
			{10, z.one(0, last, 1, piece{4, 9, "linklink", 0, 255, "abc"})},
			{10, z.one(1, 0, 1, piece{0, 9, "linklink", 3, 30, long(30)})},
			{10, z.one(1, last, 0, piece{4, 9, "linklink", 200, 31, ""})},
			{4294967295, z.one(1, last, 0, piece{4, 4294967294, "linklink", 3, 1, ""})},
			{1, []step{{z.first + 2, piece{4, 9, "linklink", 3, 0, ""}.sector(1, 0)}, {z.first + 3, piece{4, 9, "linklink", 3, 0, ""}.sector(0, 1)}}},
			{1, []step{{z.first, api.Sector{1}}, {z.side(1) + 2, api.Sector{63: 1}}}},
		} {
			h := head{1, x.session, ""}
			want := slices.Concat(twice(z.first, h.sector(0)), twice(z.side(1), api.Sector{}), syncs)
			checkSteps(t, "P10.1", on(t, 100, x.under...), want, func(d *disk.Disk) api.Errno {
				return journal.Format(d, z.first, z.n)
			})
		}
	}
}

// TestFormatOver checks that Format leaves nothing of a journal, whichever side is active.
func TestFormatOver(t *testing.T) {
	z := zone{4, 31}
	for rewrites := range 4 {
		d := formatted(t, 40, z)
		j := mustOpen(t, d, z)
		for range rewrites {
			must(t, "P10.5", j.Rewrite([]string{"a", long(70)}))
		}
		must(t, "P10.4", j.Append("b"), j.Commit())
		must(t, "P10.1", journal.Format(d, z.first, z.n))
		checkJournal(t, "P10.1", mustOpen(t, d, z), 1, 6)
		d = d.Crash(nil)
		j = mustOpen(t, d, z)
		checkJournal(t, "P10.1", j, 1, 6)
		must(t, "P10.4", j.Append("a"), j.Commit())
		checkJournal(t, "P10.1", mustOpen(t, d, z), 1, 5, "a")
	}
}

// TestAppendSteps checks what Append writes: the fragments of records of all sizes, behind the header and behind other records, and Commit.
func TestAppendSteps(t *testing.T) {
	z := zone{3, 301}
	base := head{1, 1, ""}
	for n := 0; n <= 1000; n++ {
		if n > 125 && n < 985 && n%97 > 1 {
			continue
		}
		record := long(n)
		under := twice(z.first, base.sector(0))
		session, slot, link := 2, 0, base.after(0)
		if n <= 100 {
			// Behind records of another session.
			var before []step
			before, link = z.steps(1, 2, link, 0, 0, "first", long(61))
			under = append(under, before...)
			session, slot = 3, 4
		}
		want, _ := z.steps(1, session, link, 0, slot, record, "next")
		made := on(t, 304, under...)
		checkSteps(t, "P10.4", made, append(want, syncs...), func(d *disk.Disk) api.Errno {
			j := mustOpen(t, d, z)
			for _, call := range []func() api.Errno{func() api.Errno { return j.Append(record) }, func() api.Errno { return j.Append("next") }, j.Commit} {
				if e := call(); e != api.OK {
					return e
				}
			}
			return api.OK
		})
	}
}

// TestAppendThatFails checks that a record is not one of the journal if the disk fails before all of it is written.
func TestAppendThatFails(t *testing.T) {
	z := zone{0, 60}
	for n := range 8 {
		d := formatted(t, 60, z)
		j := mustOpen(t, d, z)
		must(t, "P10.4", j.Append("a"))
		d.Arm(n)
		e, records, room := j.Append(long(100)), []string{"a"}, 13
		if want := map[bool]api.Errno{false: api.ErrDown, true: api.OK}[n == 8]; e != want {
			t.Errorf("P10.4: after %d steps Append returns %d", n, e)
		}
		checkJournal(t, "P10.4", j, 1, room, records...)
		if e := j.Append("b"); e != api.ErrDown {
			t.Errorf("P10.4: Append returns %d when the disk is down", e)
		}
		checkJournal(t, "P10.4", j, 1, room, records...)
	}
	d := formatted(t, 60, z)
	j := mustOpen(t, d, z)
	must(t, "P10.4", j.Append("a"))
	d.Arm(8)
	must(t, "P10.4", j.Append(long(100)))
	if e := j.Commit(); e != api.ErrDown {
		t.Errorf("P10.4: Commit returns %d when the disk fails", e)
	}
	checkJournal(t, "P10.4", j, 1, 9, "a", long(100))
}

// TestRewriteSteps checks what Rewrite writes, from either side, also when it does so again, and what Append writes after it.
func TestRewriteSteps(t *testing.T) {
	z := zone{2, 83}
	for _, generation := range []int{1, 2, 255, 256, 65535, 1 << 24, 1<<32 - 3} {
		for side := range 2 {
			for _, l := range [][]string{nil, {""}, {"a", "", long(30), long(31)}, {long(400), "z"}} {
				active := head{generation, 300, ""}
				before, _ := z.steps(generation, 40, active.after(side), side, 0, "old", long(99))
				made := on(t, 90, slices.Concat(before, twice(z.side(side), active.sector(side)))...)
				other := 1 - side
				next := head{generation + 1, 301, ""}
				want, link := z.steps(generation+1, 301, next.after(other), other, 0, l...)
				used := len(want) / 2
				want = slices.Concat(want, syncs, twice(z.side(other), next.sector(other)), syncs)
				more, _ := z.steps(generation+1, 301, link, other, used, long(45))
				last := head{generation + 2, 301, ""}
				again, _ := z.steps(generation+2, 301, last.after(side), side, 0, "again")
				want = slices.Concat(want, more, again, syncs, twice(z.side(side), last.sector(side)), syncs)
				checkSteps(t, "P10.5", made, want, func(d *disk.Disk) api.Errno {
					j := mustOpen(t, d, z)
					if e := j.Rewrite(l); e != api.OK {
						checkJournal(t, "P10.5", j, generation, 14, "old", long(99))
						return e
					}
					checkJournal(t, "P10.5", j, generation+1, 19-used, l...)
					if e := j.Append(long(45)); e != api.OK {
						checkJournal(t, "P10.4", j, generation+1, 19-used, l...)
						return e
					}
					if e := j.Rewrite([]string{"again"}); e != api.OK {
						checkJournal(t, "P10.5", j, generation+1, 17-used, append(slices.Clone(l), long(45))...)
						return e
					}
					checkJournal(t, "P10.5", j, generation+2, 18, "again")
					return api.OK
				})
			}
		}
	}
}
