package disk

import (
	"maps"

	"rivermark/api"
)

// surface is what sectors are durably. A sector of zeros is in neither map, so that a large disk that is nearly empty costs little, also when it is copied after a failure.
type surface struct {
	held   map[int]api.Sector
	rotten map[int]bool
}

// blank returns a surface of zeros.
func blank() surface {
	return surface{held: map[int]api.Sector{}, rotten: map[int]bool{}}
}

// clone returns a copy that shares no memory.
func (f surface) clone() surface {
	return surface{held: maps.Clone(f.held), rotten: maps.Clone(f.rotten)}
}

// read returns a sector.
func (f surface) read(i int) (api.Sector, api.Errno) {
	if f.rotten[i] {
		return api.Sector{}, api.ErrCorrupt
	}
	return f.held[i], api.OK
}

// put makes a sector durable; it is no longer rotten.
func (f surface) put(i int, s api.Sector) {
	delete(f.rotten, i)
	if s == (api.Sector{}) {
		delete(f.held, i)
		return
	}
	f.held[i] = s
}

// rot makes a sector rotten.
func (f surface) rot(i int) {
	delete(f.held, i)
	f.rotten[i] = true
}

// flip changes one bit of a sector that is not rotten.
func (f surface) flip(i, bit int) {
	s, e := f.read(i)
	if e != api.OK {
		return
	}
	s[bit/8] ^= 1 << (bit % 8)
	f.put(i, s)
}
