package disk_test

import (
	"math"
	"math/rand"
	"slices"
	"testing"

	"rivermark/api"
	"rivermark/disk"
)

// TestShortPasts does all short sequences of calls with a disk of two sectors, and compares them with the model.
func TestShortPasts(t *testing.T) {
	calls := []call{write(0, halves(1, 2)), write(0, halves(3, 4)), write(1, halves(5, 6)), write(1, api.Sector{}), write(2, filled(7)), sync(), flip(0, 300), flip(1, 7), rot(0), rot(1), arm(0), arm(2), arm(-1), crash(), crash(4, 1), crash(-1), crash(3, 2), crash(7, 8)}
	past := make([]call, 0, 4)
	var more func()
	more = func() {
		// All shorter ones were tried before.
		follow(t, newTwin(2), len(past)-1, past...)
		if len(past) == cap(past) {
			return
		}
		for _, c := range calls {
			past = append(past, c)
			more()
			past = past[:len(past)-1]
		}
	}
	more()
}

// someNumber returns a number that is often from 0 to size - 1.
func someNumber(r *rand.Rand, size int) int {
	switch r.Intn(20) {
	case 0:
		return int(r.Uint64()) >> r.Intn(64)
	case 1:
		return []int{-1, size, math.MinInt, math.MaxInt}[r.Intn(4)]
	}
	return r.Intn(size)
}

// someCall returns any call, also one that is not valid.
func someCall(r *rand.Rand, size int) call {
	switch r.Intn(20) {
	case 0, 1, 2:
		return sync()
	case 3, 4:
		return flip(someNumber(r, size), someNumber(r, 512))
	case 5:
		return rot(someNumber(r, size))
	case 6:
		return arm(someNumber(r, 30))
	case 7:
		return arm(-1)
	case 8:
		return crash(someKeep(r)...)
	}
	return write(someNumber(r, size), halves(byte(r.Intn(4)), byte(r.Intn(4))))
}

func someKeep(r *rand.Rand) []int {
	keep := make([]int, r.Intn(5))
	for i := range keep {
		keep[i] = someNumber(r, 8)
	}
	return keep
}

// TestLongPasts does long sequences of any calls, and compares them with the model; none of them panics (P1).
func TestLongPasts(t *testing.T) {
	r := rand.New(rand.NewSource(91))
	for range 1000 {
		size := 1 + r.Intn(6)
		w := newTwin(size)
		for range 60 {
			w = follow(t, w, 0, someCall(r, size))
			if w.d.Down() && r.Intn(3) == 0 {
				w = follow(t, w, 0, crash(someKeep(r)...))
			}
		}
	}
}

// TestSyncedIsRead checks P9.5: what was written and synced is read after any writes to other sectors and after any failures, as long as nothing is done to its sector.
func TestSyncedIsRead(t *testing.T) {
	r := rand.New(rand.NewSource(95))
	for range 500 {
		d := disk.New(8)
		var synced [8]result
		for i := range synced {
			synced[i] = good(halves(byte(r.Intn(256)), byte(r.Intn(256))))
			mustDo(t, "P9.2", d.Write(i, filled(100)), d.Write(i, synced[i].s))
		}
		mustDo(t, "P9.2", d.Sync())
		for range 40 {
			switch i := r.Intn(4); r.Intn(6) {
			case 0:
				d.Sync()
			case 1:
				d.Flip(i, r.Intn(512))
			case 2:
				d.Rot(i)
			case 3:
				d.Arm(r.Intn(20))
			case 4:
				d = d.Crash(someKeep(r))
			default:
				d.Write(i, filled(byte(r.Intn(256))))
			}
		}
		d = d.Crash(someKeep(r))
		for i := 4; i < 8; i++ {
			checkRead(t, "P9.5", d, i, synced[i].s, synced[i].e)
		}
	}
}

// TestOnlyOutcomes checks P9.6: after a failure a sector is one of what it can be, each of these is found, and without open writes it is what it was.
func TestOnlyOutcomes(t *testing.T) {
	r := rand.New(rand.NewSource(96))
	for range 300 {
		d := disk.New(4)
		for range 6 {
			mustDo(t, "P9.2", d.Write(r.Intn(4), halves(byte(r.Intn(256)), byte(r.Intn(256)))))
		}
		mustDo(t, "P9.2", d.Sync(), d.Rot(r.Intn(4)))
		can := make([][]result, 4)
		last := make([]api.Sector, 4)
		for i := range can {
			s, e := d.Read(i)
			can[i], last[i] = []result{{s, e}}, s
		}
		for range r.Intn(6) {
			i, s := r.Intn(4), halves(byte(r.Intn(256)), byte(r.Intn(256)))
			torn := s
			copy(torn[32:], last[i][32:])
			mustDo(t, "P9.2", d.Write(i, s))
			// Only the last write can be torn.
			if len(can[i]) > 1 {
				can[i] = can[i][:len(can[i])-2]
			}
			can[i] = append(can[i], good(s), unreadable, good(torn))
			last[i] = s
		}
		checkOutcomes(t, r, d, can)
	}
}

// checkOutcomes checks that failures find just what can be found.
func checkOutcomes(t *testing.T, r *rand.Rand, d *disk.Disk, can [][]result) {
	t.Helper()
	found := make([][]result, len(can))
	for x := range 500 {
		after := d.Crash([]int{x, r.Int(), -r.Int(), r.Int()})
		for i := range can {
			s, e := after.Read(i)
			if !slices.Contains(can[i], result{s, e}) {
				t.Fatalf("P9.6: the sector %d is %v, %d", i, s, e)
			}
			if !slices.Contains(found[i], result{s, e}) {
				found[i] = append(found[i], result{s, e})
			}
		}
	}
	for i := range can {
		for _, one := range can[i] {
			if !slices.Contains(found[i], one) {
				t.Fatalf("P9.6: the sector %d is never %v", i, one)
			}
		}
	}
}

// TestArmedDoesNoMore checks P9.7: an armed disk does that many steps at most, and reads nothing after it has failed.
func TestArmedDoesNoMore(t *testing.T) {
	r := rand.New(rand.NewSource(97))
	for range 1000 {
		d := disk.New(3)
		for range r.Intn(5) {
			mustDo(t, "P9.2", d.Write(r.Intn(3), filled(1)))
		}
		n, done, failed := r.Intn(10), 0, false
		d.Arm(n)
		for range 30 {
			i := r.Intn(4)
			step, valid := d.Sync, true
			if r.Intn(3) > 0 {
				step, valid = func() api.Errno { return d.Write(i, filled(2)) }, i < 3
			}
			before := d.Steps()
			switch e := step(); {
			case e == api.OK && !failed && valid:
				done++
			case e == api.ErrArg && !failed && !valid:
			case e == api.ErrDown && (failed || valid):
				failed = true
			default:
				t.Fatalf("P9.7: a step returns %d", e)
			}
			if d.Down() != failed || done > n || failed && (done != n || d.Steps() != before) {
				t.Fatalf("P9.7: a disk armed with %d has done %d steps; down: %t", n, done, d.Down())
			}
			if s, e := d.Read(r.Intn(3)); failed && (s != (api.Sector{}) || e != api.ErrDown) {
				t.Fatalf("P9.7: a disk that has failed reads %v, %d", s, e)
			}
		}
	}
}
