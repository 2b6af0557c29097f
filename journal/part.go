package journal

import (
	"iter"

	"rivermark/api"
	"rivermark/disk"
)

const (
	leastSectors = 8  // of a part
	headerSlot   = -1 // the header lies before the slot 0 as if it were a slot
)

// part is n sectors of a disk from the sector first on.
type part struct {
	disk     *disk.Disk
	first, n int
}

// check returns the errors that a part has before it is read.
func (p part) check() api.Errno {
	switch {
	// first + n may be no int.
	case p.n < leastSectors, p.first < 0, p.first > p.disk.Size()-p.n:
		return api.ErrArg
	case p.disk.Down():
		return api.ErrDown
	}
	return api.OK
}

// slots returns how many slots a side has.
func (p part) slots() int { return p.n/4 - 1 }

// place returns the sector of the first copy of a slot, or of the header.
func (p part) place(side, slot int) int { return p.first + side*(p.n/2) + 2 + 2*slot }

// copies yields the copies of a slot, or of the header, that can be read.
func (p part) copies(side, slot int) iter.Seq[api.Sector] {
	return func(yield func(api.Sector) bool) {
		at := p.place(side, slot)
		for i := range 2 {
			if s, e := p.disk.Read(at + i); e == api.OK && !yield(s) {
				return
			}
		}
	}
}

// headers returns those copies of the header of a side that are headers of it.
func (p part) headers(side int) []header {
	var l []header
	for s := range p.copies(side, headerSlot) {
		if h := header(s); h.fits(side) {
			l = append(l, h)
		}
	}
	return l
}

// fragments yields the slots of a side, each with those of its copies that are fragments of it.
func (p part) fragments(side int) iter.Seq2[int, []fragment] {
	return func(yield func(int, []fragment) bool) {
		for slot := range p.slots() {
			var l []fragment
			for s := range p.copies(side, slot) {
				if f := fragment(s); f.fits(side, slot) {
					l = append(l, f)
				}
			}
			if !yield(slot, l) {
				return
			}
		}
	}
}

// sessionBehind returns the session behind the part. All fragments count, also those that belong to no chain: else, what is written next could be the same as something that was lost, and what followed that would follow again.
func (p part) sessionBehind() (int, api.Errno) {
	greatest := 0
	for side := range 2 {
		for _, h := range p.headers(side) {
			greatest = max(greatest, h.session())
		}
		for _, l := range p.fragments(side) {
			for _, f := range l {
				greatest = max(greatest, f.session())
			}
		}
	}
	if greatest == maxNumber {
		return 0, api.ErrLimit
	}
	return greatest + 1, api.OK
}

// write writes both copies of a slot, or of the header.
func (p part) write(side, slot int, s api.Sector) api.Errno {
	return twice(p.disk.Write, p.place(side, slot), s)
}

// twice writes a sector and the next one.
func twice(write func(int, api.Sector) api.Errno, at int, s api.Sector) api.Errno {
	for i := range 2 {
		if e := write(at+i, s); e != api.OK {
			return e
		}
	}
	return api.OK
}
