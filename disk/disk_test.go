package disk_test

import (
	"math"
	"slices"
	"testing"

	"rivermark/api"
	"rivermark/disk"
)

// halves returns a sector whose first 32 bytes, and whose others, are the same.
func halves(first, second byte) api.Sector {
	var s api.Sector
	for i := range s {
		s[i] = second
		if i < 32 {
			s[i] = first
		}
	}
	return s
}

func filled(b byte) api.Sector { return halves(b, b) }

// outside returns numbers that no sector of a disk has.
func outside(d *disk.Disk) []int {
	return []int{-1, d.Size(), d.Size() + 1, -d.Size(), api.MaxDisk, math.MinInt, math.MaxInt, math.MinInt32, math.MaxInt32, 1 << 32}
}

// mustDo checks that calls were done.
func mustDo(t *testing.T, what string, errors ...api.Errno) {
	t.Helper()
	for i, e := range errors {
		if e != api.OK {
			t.Fatalf("%s: the call %d returns %d", what, i, e)
		}
	}
}

func checkRead(t *testing.T, what string, d *disk.Disk, i int, want api.Sector, e api.Errno) {
	t.Helper()
	if s, f := d.Read(i); s != want || f != e {
		t.Errorf("%s: Read of %d is %v, %d, not %v, %d", what, i, s, f, want, e)
	}
}

func TestExamples(t *testing.T) {
	d := disk.New(4)
	a, b := filled(1), filled(2)
	mustDo(t, "P9.2", d.Write(2, a))
	checkRead(t, "P9.2", d, 2, a, api.OK)
	if l := d.Open(); !slices.Equal(l, []int{2}) {
		t.Errorf("P9.1: Open is %v", l)
	}
	mustDo(t, "P9.2", d.Write(2, b))
	checkRead(t, "P9.3", d.Crash([]int{0}), 2, api.Sector{}, api.OK)
	checkRead(t, "P9.3", d.Crash([]int{1}), 2, a, api.OK)
	checkRead(t, "P9.3", d.Crash([]int{2}), 2, b, api.OK)
	checkRead(t, "P9.3", d.Crash([]int{3}), 2, api.Sector{}, api.ErrCorrupt)
	checkRead(t, "P9.3", d.Crash([]int{4}), 2, halves(2, 1), api.OK)
	mustDo(t, "P9.4", d.Sync(), d.Flip(2, 9))
	second := b
	second[1] = 0
	checkRead(t, "P9.4", d, 2, second, api.OK)
	mustDo(t, "P9.4", d.Rot(2))
	checkRead(t, "P9.4", d, 2, api.Sector{}, api.ErrCorrupt)
	mustDo(t, "P9.2", d.Write(2, a))
	checkRead(t, "P9.2", d, 2, a, api.OK)
	d.Arm(0)
	if e := d.Write(0, a); e != api.ErrDown {
		t.Errorf("P9.1: Write to a disk that fails returns %d", e)
	}
	checkRead(t, "P9.1", d, 0, api.Sector{}, api.ErrDown)
}

func TestNew(t *testing.T) {
	for _, n := range []int{math.MinInt, math.MinInt32, -1, 0, api.MaxDisk + 1, 2 * api.MaxDisk, 1 << 32, math.MaxInt} {
		if d := disk.New(n); d != nil {
			t.Errorf("P9.1: a disk of %d sectors", n)
		}
	}
	for _, n := range []int{1, 2, 63, 64, 65, api.MaxDisk - 1, api.MaxDisk} {
		d := disk.New(n)
		if d == nil || d.Size() != n || d.Steps() != 0 || d.Down() || len(d.Open()) != 0 {
			t.Fatalf("P9.1: a new disk of %d sectors is %v", n, d)
		}
		for i := range n {
			if s, e := d.Read(i); s != (api.Sector{}) || e != api.OK {
				t.Fatalf("P9.1: the sector %d of a new disk is %v, %d", i, s, e)
			}
		}
		// The last sector can be written, the one behind it cannot.
		mustDo(t, "P9.2", d.Write(n-1, filled(3)))
		checkRead(t, "P9.2", d, n-1, filled(3), api.OK)
		checkRead(t, "P9.2", d, n, api.Sector{}, api.ErrArg)
		for range 50 {
			mustDo(t, "P9.1: a new disk is not armed", d.Sync())
		}
	}
}

// TestAllSectors writes all sectors of a disk of the greatest size, in a mixed order, and reads them in each state.
func TestAllSectors(t *testing.T) {
	d := disk.New(api.MaxDisk)
	content := func(i int) api.Sector { return halves(byte(i), byte(i>>8)) }
	check := func(d *disk.Disk) {
		for i := range api.MaxDisk {
			if s, e := d.Read(i); s != content(i) || e != api.OK {
				t.Fatalf("P9.2: the sector %d is %v, %d", i, s, e)
			}
		}
	}
	for k := range api.MaxDisk {
		i := k * 40503 % api.MaxDisk
		mustDo(t, "P9.2", d.Write(i, content(i)))
	}
	check(d)
	for i, k := range d.Open() {
		if i != k {
			t.Fatalf("P9.1: the open write %d is that of the sector %d", i, k)
		}
	}
	mustDo(t, "P9.2", d.Sync())
	check(d)
	if len(d.Open()) != 0 || d.Steps() != api.MaxDisk+1 {
		t.Errorf("P9.2: %d open writes and %d steps after Sync", len(d.Open()), d.Steps())
	}
	check(d.Crash([]int{4}))
}

// TestNoSuchSector checks that calls for other sectors return ErrArg and change nothing: they are no steps, and no disk fails at them.
func TestNoSuchSector(t *testing.T) {
	for _, size := range []int{1, 5, api.MaxDisk} {
		d := disk.New(size)
		d.Arm(0)
		for _, i := range outside(d) {
			checkRead(t, "P9.2", d, i, api.Sector{}, api.ErrArg)
			for k, e := range []api.Errno{d.Write(i, filled(1)), d.Flip(i, 0), d.Flip(i, -1), d.Rot(i)} {
				if e != api.ErrArg {
					t.Errorf("P9.2, P9.4: the call %d for the sector %d of %d returns %d", k, i, size, e)
				}
			}
		}
		if d.Down() || d.Steps() != 0 || len(d.Open()) != 0 {
			t.Errorf("P9.2: a disk after calls for other sectors: %t, %d, %v", d.Down(), d.Steps(), d.Open())
		}
		if e := d.Write(0, filled(1)); e != api.ErrDown || !d.Down() {
			t.Errorf("P9.1: Write to an armed disk returns %d", e)
		}
	}
}

func TestOpenWrites(t *testing.T) {
	d := disk.New(10)
	for n, i := range []int{7, 2, 9, 2, 0, 7, 2} {
		mustDo(t, "P9.2", d.Write(i, filled(byte(n+1))))
		checkRead(t, "P9.2", d, i, filled(byte(n+1)), api.OK)
	}
	want := []int{0, 2, 2, 2, 7, 7, 9}
	l := d.Open()
	if !slices.Equal(l, want) {
		t.Errorf("P9.1: Open is %v", l)
	}
	clear(l[:cap(l)])
	if l := d.Open(); !slices.Equal(l, want) || d.Steps() != 7 {
		t.Errorf("P9.1: Open is %v, Steps is %d", l, d.Steps())
	}
	for i, b := range []byte{5, 0, 7, 0, 0, 0, 0, 6, 0, 3} {
		checkRead(t, "P9.2", d, i, filled(b), api.OK)
	}
	mustDo(t, "P9.2", d.Sync(), d.Write(9, filled(9)), d.Write(9, api.Sector{}))
	if l := d.Open(); !slices.Equal(l, []int{9, 9}) || d.Steps() != 10 {
		t.Errorf("P9.1: Open is %v, Steps is %d", l, d.Steps())
	}
	mustDo(t, "P9.2", d.Sync(), d.Sync())
	for i, b := range []byte{5, 0, 7, 0, 0, 0, 0, 6, 0, 0} {
		checkRead(t, "P9.2: the last write is durable, also one of zeros", d, i, filled(b), api.OK)
	}
	if len(d.Open()) != 0 || d.Steps() != 12 {
		t.Errorf("P9.1: Open is %v, Steps is %d", d.Open(), d.Steps())
	}
}

// TestArm counts the steps that are done by disks that are armed again and again.
func TestArm(t *testing.T) {
	for i, c := range []struct {
		arms []int // one after the other, with one step after each
		want int   // the steps after that that are done; -1: none fails
	}{
		{nil, -1},
		{[]int{1}, 0},
		{[]int{2}, 1},
		{[]int{5}, 4},
		{[]int{-1}, -1},
		{[]int{math.MinInt}, -1},
		{[]int{math.MaxInt}, -1},
		{[]int{1 << 32}, -1},
		{[]int{1, -1}, -1},
		{[]int{1, -1, 3}, 2},
		{[]int{1, 1, 1, 1}, 0},
		{[]int{9, 2}, 1},
		{[]int{2, 9}, 8},
		{[]int{2, math.MaxInt}, -1},
		{[]int{3, math.MinInt, 3}, 2},
	} {
		d := disk.New(3)
		for _, n := range c.arms {
			d.Arm(n)
			mustDo(t, "P9.1: Arm", d.Write(1, filled(1)))
		}
		done := 0
		for n := range 30 {
			step := d.Sync
			if n%2 == 1 {
				step = func() api.Errno { return d.Write(2, filled(2)) }
			}
			if step() == api.OK {
				done++
			}
		}
		if c.want >= 0 && done != c.want || c.want < 0 && done != 30 || d.Steps() != len(c.arms)+done || d.Down() != (c.want >= 0) {
			t.Errorf("P9.1: the disk %d does %d steps, %d in all; down: %t", i, done, d.Steps(), d.Down())
		}
	}
}

// TestArmCountsSteps checks that only Write and Sync are counted, whatever else is called between them.
func TestArmCountsSteps(t *testing.T) {
	d := disk.New(2)
	d.Arm(2)
	for range 10 {
		d.Read(0)
		d.Read(9)
		d.Open()
		d.Crash(nil)
		mustDo(t, "P9.4", d.Flip(0, 3), d.Rot(1))
		d.Flip(0, -1)
		d.Rot(2)
		d.Write(2, filled(1))
	}
	mustDo(t, "P9.1", d.Sync(), d.Write(1, filled(1)))
	if d.Down() || d.Steps() != 2 {
		t.Errorf("P9.1: after 2 steps: %t, %d", d.Down(), d.Steps())
	}
	if e := d.Sync(); e != api.ErrDown || !d.Down() || d.Steps() != 2 {
		t.Errorf("P9.1: Sync at which the disk fails returns %d; after it: %t, %d", e, d.Down(), d.Steps())
	}
	checkRead(t, "P9.3: a Sync that failed was not done", d.Crash(nil), 1, api.Sector{}, api.ErrCorrupt)
}

// TestDown checks that a disk that is down does nothing, says so before all else, and stays down.
func TestDown(t *testing.T) {
	d := disk.New(3)
	mustDo(t, "P9.2", d.Write(0, filled(1)), d.Write(1, filled(2)), d.Sync(), d.Write(1, filled(3)), d.Write(1, filled(4)))
	d.Arm(0)
	if e := d.Write(1, filled(5)); e != api.ErrDown {
		t.Fatalf("P9.1: Write at which the disk fails returns %d", e)
	}
	for _, n := range []int{5, 0, -1, math.MaxInt} {
		d.Arm(n)
		for _, i := range append(outside(d), 0, 1, 2) {
			checkRead(t, "P9.7", d, i, api.Sector{}, api.ErrDown)
			for k, e := range []api.Errno{d.Write(i, filled(6)), d.Sync(), d.Flip(i, 0), d.Flip(i, 512), d.Rot(i)} {
				if e != api.ErrDown {
					t.Errorf("P9.1: the call %d for the sector %d returns %d", k, i, e)
				}
			}
		}
	}
	if l := d.Open(); !d.Down() || d.Steps() != 5 || d.Size() != 3 || !slices.Equal(l, []int{1, 1}) {
		t.Errorf("P9.1: a disk that is down: %t, %d, %d, %v", d.Down(), d.Steps(), d.Size(), l)
	}
	for x, want := range []api.Sector{filled(2), filled(3), filled(4), {}, halves(4, 3)} {
		e := api.OK
		if x == 3 {
			e = api.ErrCorrupt
		}
		found := d.Crash([]int{x})
		checkRead(t, "P9.3: a disk that is down", found, 1, want, e)
		checkRead(t, "P9.3: a disk that is down", found, 0, filled(1), api.OK)
	}
}

func TestFlip(t *testing.T) {
	d := disk.New(3)
	mustDo(t, "P9.2", d.Write(1, halves(0x5a, 0xc3)), d.Sync())
	want := halves(0x5a, 0xc3)
	for bit := range 512 {
		mustDo(t, "P9.4", d.Flip(1, bit))
		want[bit/8] ^= []byte{1, 2, 4, 8, 16, 32, 64, 128}[bit%8]
		checkRead(t, "P9.4", d, 1, want, api.OK)
	}
	checkRead(t, "P9.4: all bits", d, 1, halves(0xa5, 0x3c), api.OK)
	// Zeros are like all other bytes.
	var one api.Sector
	one[63] = 128
	mustDo(t, "P9.4", d.Flip(0, 511))
	checkRead(t, "P9.4", d, 0, one, api.OK)
	mustDo(t, "P9.4", d.Flip(0, 511))
	checkRead(t, "P9.4: twice", d, 0, api.Sector{}, api.OK)
	checkRead(t, "P9.4: others", d, 2, api.Sector{}, api.OK)
	for _, bit := range []int{-1, -8, -512, 512, 513, 1 << 32, math.MinInt, math.MaxInt} {
		for _, i := range []int{0, 1, 3} {
			if e := d.Flip(i, bit); e != api.ErrArg {
				t.Errorf("P9.4: Flip of the bit %d of %d returns %d", bit, i, e)
			}
		}
	}
	checkRead(t, "P9.4", d, 1, halves(0xa5, 0x3c), api.OK)
	if d.Steps() != 2 {
		t.Errorf("P9.4: Flip is a step: %d", d.Steps())
	}
}

func TestRot(t *testing.T) {
	d := disk.New(4)
	mustDo(t, "P9.2", d.Write(0, filled(1)), d.Write(1, filled(2)), d.Write(2, filled(3)), d.Sync(), d.Rot(1), d.Rot(3), d.Rot(3))
	for i, want := range []api.Errno{api.OK, api.ErrCorrupt, api.OK, api.ErrCorrupt} {
		s, e := d.Read(i)
		if e != want || e != api.OK && s != (api.Sector{}) {
			t.Errorf("P9.4: Read of %d is %v, %d", i, s, e)
		}
	}
	mustDo(t, "P9.4", d.Flip(1, 5), d.Sync())
	checkRead(t, "P9.4: Flip of a rotten sector", d, 1, api.Sector{}, api.ErrCorrupt)
	for _, bit := range []int{-1, 512} {
		if e := d.Flip(1, bit); e != api.ErrArg {
			t.Errorf("P9.4: Flip of the bit %d of a rotten sector returns %d", bit, e)
		}
	}
	mustDo(t, "P9.2", d.Write(1, api.Sector{}))
	checkRead(t, "P9.2", d, 1, api.Sector{}, api.OK)
	mustDo(t, "P9.2", d.Sync())
	checkRead(t, "P9.2: Sync ends rot", d, 1, api.Sector{}, api.OK)
	mustDo(t, "P9.2", d.Flip(1, 0), d.Flip(1, 0))
	checkRead(t, "P9.4", d, 1, api.Sector{}, api.OK)
	if d.Steps() != 7 {
		t.Errorf("P9.4: Rot is a step: %d", d.Steps())
	}
}

// TestSpoiltUnderOpenWrites checks that Flip and Rot change what is durable only: open writes are read, and synced, as they were.
func TestSpoiltUnderOpenWrites(t *testing.T) {
	for _, rotten := range []bool{false, true} {
		d := disk.New(2)
		mustDo(t, "P9.2", d.Write(1, filled(7)), d.Sync(), d.Write(1, filled(8)), d.Write(1, filled(9)))
		under, e := filled(7), api.OK
		if rotten {
			mustDo(t, "P9.4", d.Rot(1))
			under, e = api.Sector{}, api.ErrCorrupt
		} else {
			mustDo(t, "P9.4", d.Flip(1, 8*40+3))
			under[40] ^= 8
		}
		checkRead(t, "P9.4", d, 1, filled(9), api.OK)
		if l := d.Open(); !slices.Equal(l, []int{1, 1}) {
			t.Errorf("P9.4: Open is %v", l)
		}
		checkRead(t, "P9.3: spoilt", d.Crash(nil), 1, under, e)
		checkRead(t, "P9.3: first", d.Crash([]int{1}), 1, filled(8), api.OK)
		checkRead(t, "P9.3: torn", d.Crash([]int{4}), 1, halves(9, 8), api.OK)
		mustDo(t, "P9.2", d.Sync())
		checkRead(t, "P9.2", d, 1, filled(9), api.OK)
	}
}
