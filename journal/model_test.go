package journal_test

import (
	"fmt"
	"slices"
	"strings"
	"testing"

	"rivermark/api"
	"rivermark/disk"
	"rivermark/hash"
	"rivermark/journal"
	"rivermark/wire"
)

// four returns a number as four bytes.
func four(n int) string {
	return string([]byte{byte(n / 16777216), byte(n / 65536 % 256), byte(n / 256 % 256), byte(n % 256)})
}

func zeros(n int) string { return strings.Repeat("\x00", n) }

// head is what a header says. rest is the bytes that are zeros in those that are written.
type head struct {
	generation, session int
	rest                string
}

func (h head) sector(side int) api.Sector {
	body := "QUIETJNL" + four(h.generation) + four(h.session) + h.rest + zeros(32-len(h.rest))
	d := hash.Of(api.TagHeader, body, string(wire.Int(side)))
	return api.Sector([]byte(body + string(d[:])))
}

// after returns the link of what goes on from the header.
func (h head) after(side int) string {
	s := h.sector(side)
	return string(s[48:56])
}

// piece is what a fragment says.
type piece struct {
	generation, session int
	link                string
	flags, size         int
	content             string
}

func (f piece) digest(side, slot int) api.Digest {
	body := four(f.generation) + four(f.session) + f.link + string([]byte{byte(f.flags), byte(f.size)}) + f.content + zeros(30-len(f.content))
	return hash.Of(api.TagFragment, body, string(wire.Int(side)), string(wire.Int(slot)))
}

func (f piece) sector(side, slot int) api.Sector {
	d := f.digest(side, slot)
	return api.Sector([]byte(four(f.generation) + four(f.session) + f.link + string(d[:8]) + string([]byte{byte(f.flags), byte(f.size)}) + f.content + zeros(30-len(f.content)) + string(d[8:])))
}

// after returns the link of what goes on from the fragment.
func (f piece) after(side, slot int) string {
	d := f.digest(side, slot)
	return string(d[:8])
}

// pieces returns the fragments of a record that goes on from a link.
func pieces(generation, session int, link string, side, slot int, record string) []piece {
	var l []piece
	for first := true; first || record != ""; first = false {
		f := piece{generation: generation, session: session, link: link, content: record[:min(30, len(record))]}
		record = record[len(f.content):]
		f.size = len(f.content)
		if first {
			f.flags = 1
		}
		if record == "" {
			f.flags += 2
		}
		link = f.after(side, slot)
		slot++
		l = append(l, f)
	}
	return l
}

// readHead returns what a sector says if it is a header of a side.
func readHead(s api.Sector, side int) (head, bool) {
	number := func(from int) int {
		return int(s[from])<<24 | int(s[from+1])<<16 | int(s[from+2])<<8 | int(s[from+3])
	}
	h := head{number(8), number(12), string(s[16:48])}
	return h, h.sector(side) == s
}

// readPiece returns what a sector says if it is a fragment of a slot.
func readPiece(s api.Sector, side, slot int) (piece, bool) {
	number := func(from int) int {
		return int(s[from])<<24 | int(s[from+1])<<16 | int(s[from+2])<<8 | int(s[from+3])
	}
	f := piece{number(0), number(4), string(s[8:16]), int(s[24]), int(s[25]), string(s[26:56])}
	return f, f.sector(side, slot) == s
}

// zone is a part of a disk.
type zone struct{ first, n int }

func (z zone) side(side int) int { return z.first + side*(z.n/2) }

// slots returns how many slots a side has: both copies have to be on it.
func (z zone) slots() int {
	k := 0
	for 3+2*k < z.n/2 {
		k++
	}
	return k
}

// view is what is found of a journal: by Open, or by the chapter's words.
type view struct {
	e                         api.Errno
	records                   string
	room, generation, session int
}

// looked is what a disk has on a part.
type looked struct {
	zone
	heads  [2][]head     // of each side
	pieces [2][][2]piece // of each slot of each side; those that are none have the size -1
}

func look(d *disk.Disk, z zone) looked {
	x := looked{zone: z}
	for side := range 2 {
		for i := range 2 {
			if s, e := d.Read(z.side(side) + i); e == api.OK {
				if h, ok := readHead(s, side); ok {
					x.heads[side] = append(x.heads[side], h)
				}
			}
		}
		for slot := range z.slots() {
			both := [2]piece{{size: -1}, {size: -1}}
			for i := range 2 {
				if s, e := d.Read(z.side(side) + 2 + 2*slot + i); e == api.OK {
					if f, ok := readPiece(s, side, slot); ok {
						both[i] = f
					}
				}
			}
			x.pieces[side] = append(x.pieces[side], both)
		}
	}
	return x
}

// session returns the session behind the part.
func (x looked) session() int {
	session := 1
	for side := range 2 {
		for _, h := range x.heads[side] {
			session = max(session, h.session+1)
		}
		for _, both := range x.pieces[side] {
			for _, f := range both {
				if f.size >= 0 {
					session = max(session, f.session+1)
				}
			}
		}
	}
	return session
}

// active returns the active side and its header.
func (x looked) active() (int, head) {
	var sides [2]head
	for side := range 2 {
		for i, h := range x.heads[side] {
			best := sides[side]
			if i == 0 || h.generation > best.generation || h.generation == best.generation && h.session > best.session {
				sides[side] = h
			}
		}
	}
	if len(x.heads[0]) == 0 || len(x.heads[1]) > 0 && sides[1].generation > sides[0].generation {
		return 1, sides[1]
	}
	return 0, sides[0]
}

// chain returns the fragments that belong to the chain.
func (x looked) chain() []piece {
	side, h := x.active()
	var l []piece
	link := h.after(side)
	for slot, both := range x.pieces[side] {
		here := slices.DeleteFunc(both[:], func(f piece) bool {
			return f.size < 0 || f.size > 30 || f.generation != h.generation || f.link != link
		})
		if len(here) == 0 {
			return l
		}
		f := here[0]
		if len(here) == 2 && here[1].session > f.session {
			f = here[1]
		}
		begins := len(l) == 0 || l[len(l)-1].flags >= 2
		if begins != (f.flags%2 == 1) {
			return l
		}
		l = append(l, f)
		link = f.after(side, slot)
	}
	return l
}

// should returns what Open has to find.
func should(d *disk.Disk, z zone) view {
	x := look(d, z)
	if len(x.heads[0])+len(x.heads[1]) == 0 {
		return view{e: api.ErrCorrupt}
	}
	v := view{session: x.session(), room: x.slots()}
	if v.session > 4294967295 {
		return view{e: api.ErrLimit}
	}
	_, h := x.active()
	v.generation = h.generation
	record, used := "", 0
	for _, f := range x.chain() {
		record += f.content[:f.size]
		used++
		if f.flags >= 2 {
			v.records += fmt.Sprintf("%q ", record)
			record = ""
			v.room -= used
			used = 0
		}
	}
	return v
}

// does returns what Open finds. What is written next, on a copy of the disk, has the greatest session then.
func does(t *testing.T, d *disk.Disk, z zone) view {
	t.Helper()
	j, e := journal.Open(d, z.first, z.n)
	if e != api.OK {
		if j != nil {
			t.Error("P10.2: a journal together with an error")
		}
		return view{e: e}
	}
	v := view{room: j.Room(), generation: j.Generation()}
	for _, s := range j.Records() {
		v.records += fmt.Sprintf("%q ", s)
	}
	if len(d.Open()) > 0 {
		t.Fatal("this disk has open writes")
	}
	other := d.Crash(nil)
	k, e := journal.Open(other, z.first, z.n)
	must(t, "P10.2", e)
	if v.room == 0 || k.Append("") != api.OK {
		must(t, "P10.5", k.Rewrite(nil))
	}
	v.session = look(other, z).session() - 1
	return v
}

// step is a write to a sector, or a sync.
type step struct {
	at   int // -1 is a sync
	what api.Sector
}

var syncs = []step{{at: -1}}

// twice returns the steps that write a sector and the next one.
func twice(at int, what api.Sector) []step { return []step{{at, what}, {at + 1, what}} }

// steps returns the steps that write the fragments of records one after the other, and the link after them.
func (z zone) steps(generation, session int, link string, side, slot int, records ...string) ([]step, string) {
	var l []step
	for _, record := range records {
		for _, f := range pieces(generation, session, link, side, slot, record) {
			l = append(l, twice(z.side(side)+2+2*slot, f.sector(side, slot))...)
			link = f.after(side, slot)
			slot++
		}
	}
	return l, link
}

// take does steps.
func take(t *testing.T, d *disk.Disk, l []step) {
	t.Helper()
	for _, x := range l {
		e := api.OK
		if x.at < 0 {
			e = d.Sync()
		} else {
			e = d.Write(x.at, x.what)
		}
		if e != api.OK {
			t.Fatal("a step returns", e)
		}
	}
}

// sameDisks checks that two disks have the same open writes, and are the same after each failure that the numbers stand for.
func sameDisks(t *testing.T, what string, a, b *disk.Disk) {
	t.Helper()
	if !slices.Equal(a.Open(), b.Open()) {
		t.Fatalf("%s: the open writes are of %v, not %v", what, a.Open(), b.Open())
	}
	for x := range 6 {
		c, d := a.Crash([]int{x}), b.Crash([]int{x})
		for i := range c.Size() {
			s, e := c.Read(i)
			u, f := d.Read(i)
			if s != u || e != f {
				t.Fatalf("%s: after a failure (%d) the sector %d is %q, %d, not %q, %d", what, x, i, s, e, u, f)
			}
		}
	}
}

// checkSteps checks that a call does just these steps on a disk, in this order, wherever the disk fails. The disk is made anew for each try.
func checkSteps(t *testing.T, what string, made func() *disk.Disk, want []step, call func(d *disk.Disk) api.Errno) {
	t.Helper()
	for n := range len(want) + 2 {
		d, twin := made(), made()
		before := d.Steps()
		d.Arm(n)
		done, e := min(n, len(want)), api.ErrDown
		if n >= len(want) {
			e = api.OK
		}
		if f := call(d); f != e {
			t.Fatalf("%s: with %d of %d steps it returns %d", what, n, len(want), f)
		}
		if d.Steps() != before+done {
			t.Fatalf("%s: it does %d steps, not %d", what, d.Steps()-before, done)
		}
		take(t, twin, want[:done])
		sameDisks(t, what, d, twin)
	}
}
