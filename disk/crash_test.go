package disk_test

import (
	"math"
	"slices"
	"testing"

	"rivermark/api"
	"rivermark/disk"
)

// result is what Read returns.
type result struct {
	s api.Sector
	e api.Errno
}

func good(s api.Sector) result { return result{s: s} }

var unreadable = result{e: api.ErrCorrupt}

// TestCrashOutcomes tries all remainders, and other numbers with the same ones, for up to six open writes over each kind of durable sector.
func TestCrashOutcomes(t *testing.T) {
	for _, under := range []result{good(api.Sector{}), good(halves(101, 102)), unreadable} {
		for k := 1; k < 7; k++ {
			d := disk.New(3)
			mustDo(t, "P9.2", d.Write(1, under.s), d.Write(2, filled(99)), d.Sync())
			if under.e != api.OK {
				mustDo(t, "P9.4", d.Rot(1))
			}
			want := []result{under}
			for n := range k {
				s := halves(byte(n+1), byte(n+51))
				mustDo(t, "P9.2", d.Write(1, s))
				want = append(want, good(s))
			}
			second := want[k-1].s[40] // zeros, if it was rotten
			want = append(want, unreadable, good(halves(byte(k), second)))
			for r, w := range want {
				m := k + 3
				for _, x := range []int{r, r + m, r + 7*m, r - m, r - 9*m, r + math.MaxInt32*m, r - math.MaxInt32*m} {
					found := d.Crash([]int{x})
					checkRead(t, "P9.3", found, 1, w.s, w.e)
					checkRead(t, "P9.3: without open writes", found, 0, api.Sector{}, api.OK)
					checkRead(t, "P9.3: without open writes", found, 2, filled(99), api.OK)
				}
			}
		}
	}
}

// TestCrashWithGreatNumbers tries the numbers next to the greatest and the least one.
func TestCrashWithGreatNumbers(t *testing.T) {
	for k := 1; k < 10; k++ {
		d := disk.New(1)
		want := []result{good(api.Sector{})}
		for n := range k {
			mustDo(t, "P9.2", d.Write(0, filled(byte(n+1))))
			want = append(want, good(filled(byte(n+1))))
		}
		want = append(want, unreadable, good(halves(byte(k), byte(k-1))))
		for n := range 20 {
			// The remainders of great numbers, by unsigned ones: -1 - x is ^x.
			great, least := math.MaxInt-n, math.MinInt+n
			r := int(uint(great) % uint(k+3))
			checkRead(t, "P9.3", d.Crash([]int{great}), 0, want[r].s, want[r].e)
			r = k + 2 - int(uint(^least)%uint(k+3))
			checkRead(t, "P9.3", d.Crash([]int{least}), 0, want[r].s, want[r].e)
		}
	}
}

// TestCrashKeep checks which element of keep a sector gets: those with open writes get them in ascending order, whenever they were written, and from the first one again.
func TestCrashKeep(t *testing.T) {
	written := []int{90, 3, 40, 41, 7, 0}
	order := []int{0, 3, 7, 40, 41, 90}
	d := disk.New(100)
	for i := range d.Size() {
		mustDo(t, "P9.2", d.Write(i, filled(200)))
	}
	mustDo(t, "P9.2", d.Sync(), d.Rot(55))
	for _, i := range written {
		mustDo(t, "P9.2", d.Write(i, filled(byte(i+1))))
	}
	keeps := [][]int{nil, {}, {1}, {0, 1}, {1, 0, 2}, {2, 1, 0, 3, 1}, {3, 3, 2, 1, 1, 0}, {0, 1, 2, 3, 0, 1, 2, 2, 2}, {-1, -2, -3, -4}}
	for _, keep := range keeps {
		given := slices.Clone(keep)
		found := d.Crash(keep)
		if !slices.Equal(keep, given) {
			t.Fatalf("P9.3: Crash changes keep to %v", keep)
		}
		for i := range d.Size() {
			want := good(filled(200))
			if n := slices.Index(order, i); n >= 0 {
				outcomes := []result{want, good(filled(byte(i + 1))), unreadable, good(halves(byte(i+1), 200))}
				x := 0
				if len(keep) > 0 {
					x = keep[n%len(keep)]
				}
				want = outcomes[(x+4)%4]
			} else if i == 55 {
				want = unreadable
			}
			checkRead(t, "P9.3", found, i, want.s, want.e)
		}
	}
}

// TestCrashFinds checks that what is found is a disk like any other one, with nothing of the past of the first one.
func TestCrashFinds(t *testing.T) {
	d := disk.New(5)
	mustDo(t, "P9.2", d.Write(4, filled(1)), d.Sync(), d.Write(2, filled(2)), d.Write(4, filled(3)))
	d.Arm(3)
	for range 2 {
		found := d.Crash([]int{1})
		if found == nil || found.Size() != 5 || found.Steps() != 0 || found.Down() || len(found.Open()) != 0 {
			t.Fatalf("P9.3: Crash finds %v", found)
		}
		for range 9 {
			mustDo(t, "P9.3: what is found is not armed", found.Write(0, filled(9)), found.Sync())
		}
		if found.Steps() != 18 {
			t.Errorf("P9.3: %d steps", found.Steps())
		}
		// The second time the disk is down.
		for range 4 {
			d.Sync()
			d.Write(2, filled(2))
		}
	}
}

// TestCrashChangesNothing checks that a disk stays as it was, and that disks that were found share nothing with it.
func TestCrashChangesNothing(t *testing.T) {
	spoil := func(d *disk.Disk) {
		for i := range d.Size() {
			d.Write(i, filled(70))
			d.Sync()
			d.Flip(i, 17)
			d.Write(i, filled(71))
			d.Rot(i)
		}
	}
	w := follow(t, newTwin(4), 0, write(0, filled(1)), write(1, filled(2)), sync(), rot(2), write(1, filled(3)), write(1, halves(4, 5)), write(2, filled(6)), arm(6))
	first := w.d.Crash([]int{2, 1})
	for _, x := range []int{0, 1, 2, 3, 4, 5} {
		spoil(w.d.Crash([]int{x}))
		spoil(w.d.Crash([]int{x}).Crash([]int{x}))
		if what := w.differs(); what != "" {
			t.Fatalf("P9.3: after Crash with %d, %s differs", x, what)
		}
	}
	follow(t, w, 0, flip(0, 3), write(0, filled(9)), rot(1), sync(), rot(1), crash(2))
	for i, want := range []api.Sector{filled(1), halves(4, 5), filled(6), {}} {
		checkRead(t, "P9.3", first, i, want, api.OK)
	}
}

// TestCrashStays checks that a disk that was found does not change with the first one.
func TestCrashStays(t *testing.T) {
	d := disk.New(3)
	mustDo(t, "P9.2", d.Write(0, filled(1)), d.Sync(), d.Write(1, filled(2)))
	found := d.Crash([]int{1})
	mustDo(t, "P9.2", d.Write(2, filled(3)), d.Sync(), d.Flip(0, 0), d.Flip(1, 0), d.Rot(2), d.Rot(1), d.Write(0, filled(4)), d.Sync())
	for i, want := range []api.Sector{filled(1), filled(2), {}} {
		checkRead(t, "P9.3", found, i, want, api.OK)
	}
}
