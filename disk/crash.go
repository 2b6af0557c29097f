package disk

import "rivermark/api"

// half is the number of bytes of the last write in a torn sector.
const half = 32

// Crash returns the disk that is found after a failure of the power.
func (d *Disk) Crash(keep []int) *Disk {
	found := &Disk{size: d.size, durable: d.durable.clone(), open: map[int][]api.Sector{}}
	for n, i := range d.written() {
		x := 0
		if len(keep) > 0 {
			x = keep[n%len(keep)]
		}
		found.durable.fail(i, d.open[i], x)
	}
	return found
}

// fail makes of a sector what a failure of the power leaves of it and its open writes, of which there is at least one: which of all that is possible, x says.
func (f surface) fail(i int, open []api.Sector, x int) {
	k := len(open)
	switch r := remainder(x, k+3); {
	case r == 0: // none of them was done
	case r <= k:
		f.put(i, open[r-1])
	case r == k+1:
		f.rot(i)
	default:
		f.put(i, f.torn(i, open))
	}
}

// torn returns a sector of which the last open write was done in part.
func (f surface) torn(i int, open []api.Sector) api.Sector {
	// Nothing is left of a rotten sector: read returns zeros for it.
	s, _ := f.read(i)
	k := len(open)
	if k > 1 {
		s = open[k-2]
	}
	copy(s[:half], open[k-1][:half])
	return s
}

// remainder returns the remainder of x by m, from 0 to m - 1.
func remainder(x, m int) int { return (x%m + m) % m }
