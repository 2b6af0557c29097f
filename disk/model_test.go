package disk_test

import (
	"fmt"
	"slices"
	"strings"
	"testing"

	"rivermark/api"
	"rivermark/disk"
)

// What a line of a model's past says.
const (
	wrote = iota
	synced
	flipped
	rotted
)

// line is a call that was done.
type line struct {
	what, sector, bit int
	s                 api.Sector
}

// model is a disk as the chapter tells it: it keeps all calls, and reads them again for each question.
type model struct {
	first []sector // what the sectors were at the beginning
	past  []line
	fails int // the step at which the disk fails, counted from 1; 0 if it is not armed
	down  bool
}

// sector is what is known of a sector: what it is durably, as bytes (none, if it is rotten), and its open writes.
type sector struct {
	durable []byte
	open    []api.Sector
}

func newModel(sectors int) *model {
	m := &model{}
	for range sectors {
		m.first = append(m.first, sector{durable: make([]byte, 64)})
	}
	return m
}

// sector reads the past of a sector.
func (m *model) sector(i int) sector {
	s := m.first[i]
	s.durable = slices.Clone(s.durable)
	for _, l := range m.past {
		switch {
		case l.what == synced && len(s.open) > 0:
			s.durable, s.open = s.open[len(s.open)-1][:], nil
		case l.sector != i:
		case l.what == wrote:
			s.open = append(s.open, l.s)
		case l.what == flipped && s.durable != nil:
			turn(s.durable, l.bit)
		case l.what == rotted:
			s.durable = nil
		}
	}
	return s
}

// turn changes one bit.
func turn(s []byte, bit int) {
	value := []byte{1, 2, 4, 8, 16, 32, 64, 128}[bit%8]
	if s[bit/8]&value == 0 {
		s[bit/8] += value
	} else {
		s[bit/8] -= value
	}
}

func (m *model) has(i int) bool { return 0 <= i && i < len(m.first) }

func (m *model) steps() int {
	n := 0
	for _, l := range m.past {
		if l.what == wrote || l.what == synced {
			n++
		}
	}
	return n
}

func (m *model) arm(n int) {
	m.fails = 0
	// No test does as many steps as the greatest numbers say, and there is no int for the step behind them.
	if n >= 0 && n < 1<<40 {
		m.fails = m.steps() + n + 1
	}
}

// do does a call, which is valid or not; Write and Sync are steps.
func (m *model) do(l line, valid bool) api.Errno {
	switch {
	case m.down:
		return api.ErrDown
	case !valid:
		return api.ErrArg
	}
	step := l.what == wrote || l.what == synced
	if step && m.fails == m.steps()+1 {
		m.down = true
		return api.ErrDown
	}
	m.past = append(m.past, l)
	return api.OK
}

func (m *model) write(i int, s api.Sector) api.Errno {
	return m.do(line{what: wrote, sector: i, s: s}, m.has(i))
}

func (m *model) sync() api.Errno { return m.do(line{what: synced, sector: -1}, true) }

func (m *model) flip(i, bit int) api.Errno {
	return m.do(line{what: flipped, sector: i, bit: bit}, m.has(i) && 0 <= bit && bit <= 511)
}

func (m *model) rot(i int) api.Errno { return m.do(line{what: rotted, sector: i}, m.has(i)) }

func (m *model) open() []int {
	var l []int
	for i := range m.first {
		for range m.sector(i).open {
			l = append(l, i)
		}
	}
	return l
}

func (m *model) read(i int) (api.Sector, api.Errno) {
	switch {
	case m.down:
		return api.Sector{}, api.ErrDown
	case !m.has(i):
		return api.Sector{}, api.ErrArg
	}
	s := m.sector(i)
	switch {
	case len(s.open) > 0:
		return s.open[len(s.open)-1], api.OK
	case s.durable == nil:
		return api.Sector{}, api.ErrCorrupt
	}
	return api.Sector(s.durable), api.OK
}

// outcomes returns what can be found of a sector after a failure, in the order of the remainders; nil is rotten.
func (s sector) outcomes() [][]byte {
	l := [][]byte{s.durable}
	for _, w := range s.open {
		l = append(l, slices.Clone(w[:]))
	}
	k := len(s.open)
	before := l[k-1]
	if before == nil {
		before = make([]byte, 64)
	}
	return append(l, nil, slices.Concat(l[k][:32], before[32:]))
}

func (m *model) crash(keep []int) *model {
	found := &model{}
	used := 0
	for i := range m.first {
		s := m.sector(i)
		if len(s.open) > 0 {
			x := 0
			if len(keep) > 0 {
				x = keep[used%len(keep)]
			}
			l := s.outcomes()
			s = sector{durable: l[euclid(x, len(l))]}
			used++
		}
		found.first = append(found.first, s)
	}
	return found
}

// euclid returns the r from 0 to m - 1 of which x is m times some number more.
func euclid(x, m int) int {
	for r := range m {
		if (x%m-r)%m == 0 {
			return r
		}
	}
	return -1
}

// twin is a disk, and its model, of which the same is asked.
type twin struct {
	d *disk.Disk
	m *model
}

func newTwin(sectors int) twin { return twin{disk.New(sectors), newModel(sectors)} }

// call is a call that changes a disk, or finds another one. Both do it; it reports whether they return the same error.
type call struct {
	name string
	do   func(w *twin) bool
}

func write(i int, s api.Sector) call {
	return call{fmt.Sprintf("Write %d, %d..%d", i, s[0], s[63]), func(w *twin) bool { return w.d.Write(i, s) == w.m.write(i, s) }}
}

func sync() call {
	return call{"Sync", func(w *twin) bool { return w.d.Sync() == w.m.sync() }}
}

func flip(i, bit int) call {
	return call{fmt.Sprintf("Flip %d, %d", i, bit), func(w *twin) bool { return w.d.Flip(i, bit) == w.m.flip(i, bit) }}
}

func rot(i int) call {
	return call{fmt.Sprintf("Rot %d", i), func(w *twin) bool { return w.d.Rot(i) == w.m.rot(i) }}
}

func arm(n int) call {
	return call{fmt.Sprintf("Arm %d", n), func(w *twin) bool {
		w.d.Arm(n)
		w.m.arm(n)
		return true
	}}
}

func crash(keep ...int) call {
	return call{fmt.Sprintf("Crash %v", keep), func(w *twin) bool {
		w.d, w.m = w.d.Crash(keep), w.m.crash(keep)
		return w.d != nil
	}}
}

// differs returns what a disk and its model say differently, nothing if they agree.
func (w twin) differs() string {
	switch {
	case w.d.Size() != len(w.m.first):
		return "P9.1: Size"
	case w.d.Steps() != w.m.steps():
		return "P9.1: Steps"
	case w.d.Down() != w.m.down:
		return "P9.1: Down"
	case !slices.Equal(w.d.Open(), w.m.open()):
		return "P9.1: Open"
	}
	for i := -1; i <= len(w.m.first); i++ {
		s, e := w.d.Read(i)
		t, f := w.m.read(i)
		if s != t || e != f {
			return fmt.Sprint("P9.2: Read ", i)
		}
	}
	return ""
}

// follow does calls with a disk and its model, and compares what they return, and all that they say after the calls from a place on.
func follow(t *testing.T, w twin, from int, calls ...call) twin {
	t.Helper()
	var names []string
	for n, c := range calls {
		names = append(names, c.name)
		what := "the result"
		if c.do(&w) {
			what = ""
		}
		if what == "" && n >= from {
			what = w.differs()
		}
		if what != "" {
			t.Fatalf("%s differs after %s", what, strings.Join(names, "; "))
		}
	}
	return w
}
