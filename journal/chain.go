package journal

import (
	"slices"

	"rivermark/api"
)

// chain is a header with the fragments of records behind it: how many slots of which side they fill, and the link of what goes on from them.
type chain struct {
	side, generation, used int
	last                   link
}

// begin returns a chain that is only a header.
func begin(side int, h header) chain {
	return chain{side: side, generation: h.generation(), last: h.name()}
}

// active returns the active side and its header, if there is one.
func (p part) active() (int, header, bool) {
	var side int
	var h header
	found := false
	for i := range 2 {
		l := p.headers(i)
		if len(l) == 0 {
			continue
		}
		best := slices.MaxFunc(l, compareHeaders)
		if !found || best.generation() > h.generation() {
			side, h, found = i, best, true
		}
	}
	return side, h, found
}

// follow returns the chain of a header, up to its last whole record, and the records.
func (p part) follow(side int, h header) (chain, []string) {
	end := begin(side, h)
	var records []string
	var content []byte
	last, within := end.last, false // within a record
	for slot, l := range p.fragments(side) {
		f, ok := next(l, end.generation, last)
		if !ok || f.first() == within {
			break
		}
		content = append(content, f.content()...)
		last, within = f.name(), !f.last()
		if !within {
			records = append(records, string(content))
			content = content[:0]
			end.used, end.last = slot+1, last
		}
	}
	return end, records
}

// next returns which of the fragments of a slot goes on from what a link stands for, if one does: after a failure a copy may be left from an earlier session.
func next(l []fragment, generation int, before link) (fragment, bool) {
	l = slices.DeleteFunc(l, func(f fragment) bool {
		return f.generation() != generation || f.link() != before || f.size() > capacity
	})
	if len(l) == 0 {
		return fragment{}, false
	}
	return slices.MaxFunc(l, compareSessions), true
}

// put writes the fragments of a record behind a chain, and returns the chain with them.
func (p part) put(end chain, session int, record string) (chain, api.Errno) {
	n := needed(record)
	for i := range n {
		var flags byte
		if i == 0 {
			flags = flagFirst
		}
		if i == n-1 {
			flags |= flagLast
		}
		content := record[i*capacity : min((i+1)*capacity, len(record))]
		f := newFragment(end, session, flags, content)
		if e := p.write(end.side, end.used, api.Sector(f)); e != api.OK {
			return chain{}, e
		}
		end.used++
		end.last = f.name()
	}
	return end, api.OK
}

// needed returns how many slots records fill.
func needed(records ...string) int {
	n := 0
	for _, s := range records {
		n += max(1, (len(s)+capacity-1)/capacity)
	}
	return n
}

// tooLong reports whether no journal takes a record.
func tooLong(record string) bool { return len(record) > api.MaxRecord }
