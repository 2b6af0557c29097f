package journal

import (
	"cmp"

	"rivermark/api"
	"rivermark/hash"
	"rivermark/wire"
)

const (
	greeting  = "QUIETJNL"
	capacity  = 30        // bytes of content of a fragment
	maxNumber = 1<<32 - 1 // the greatest generation, and the greatest session
)

// Flags of a fragment.
const (
	flagFirst = 1
	flagLast  = 2
)

// link stands for what is before a fragment: the beginning of its digest.
type link [8]byte

// header is a sector with the text, the generation, the session, zeros and the digest from the bytes 0, 8, 12, 16 and 48 on.
type header api.Sector

// fragment is a sector with the generation, the session, the link, the digest's first half, the flags, the number of bytes of the content, the content and the digest's last half from the bytes 0, 4, 8, 16, 24, 25, 26 and 56 on.
type fragment api.Sector

// newHeader returns the header of a side.
func newHeader(side, generation, session int) header {
	var h header
	copy(h[:8], greeting)
	putNumber(h[8:12], generation)
	putNumber(h[12:16], session)
	d := h.digest(side)
	copy(h[48:], d[:])
	return h
}

func (h header) generation() int { return number(h[8:12]) }

func (h header) session() int { return number(h[12:16]) }

// name returns the link of what goes on from the header.
func (h header) name() link { return link(h[48:56]) }

func (h header) digest(side int) api.Digest {
	return hash.Of(api.TagHeader, string(h[:48]), string(wire.Int(side)))
}

// fits reports whether the sector is a header of a side.
func (h header) fits(side int) bool {
	return string(h[:8]) == greeting && api.Digest(h[48:]) == h.digest(side)
}

// compareHeaders orders headers by generations, and then by sessions.
func compareHeaders(a, b header) int {
	return cmp.Or(a.generation()-b.generation(), a.session()-b.session())
}

// newFragment returns the fragment that goes on from the end of a chain.
func newFragment(end chain, session int, flags byte, content string) fragment {
	var f fragment
	putNumber(f[:4], end.generation)
	putNumber(f[4:8], session)
	copy(f[8:16], end.last[:])
	f[24] = flags
	f[25] = byte(len(content))
	copy(f[26:56], content)
	d := f.digest(end.side, end.used)
	copy(f[16:24], d[:8])
	copy(f[56:], d[8:])
	return f
}

func (f fragment) generation() int { return number(f[:4]) }

func (f fragment) session() int { return number(f[4:8]) }

func (f fragment) link() link { return link(f[8:16]) }

// name returns the link of what goes on from the fragment.
func (f fragment) name() link { return link(f[16:24]) }

func (f fragment) first() bool { return f[24]&flagFirst != 0 }

func (f fragment) last() bool { return f[24]&flagLast != 0 }

func (f fragment) size() int { return int(f[25]) }

// content returns the content of a fragment that has at most as much as there is room for.
func (f fragment) content() []byte { return f[26 : 26+f.size()] }

func (f fragment) digest(side, slot int) api.Digest {
	return hash.Of(api.TagFragment, string(f[:16])+string(f[24:56]), string(wire.Int(side)), string(wire.Int(slot)))
}

// fits reports whether the sector is a fragment of a slot. A sector of zeros is one of no slot that a disk has room for; so most sectors of a disk that is nearly empty need no hash.
func (f fragment) fits(side, slot int) bool {
	if f == (fragment{}) {
		return false
	}
	d := f.digest(side, slot)
	return [8]byte(f[16:24]) == [8]byte(d[:8]) && [8]byte(f[56:]) == [8]byte(d[8:])
}

// compareSessions orders fragments by sessions.
func compareSessions(a, b fragment) int { return a.session() - b.session() }

// putNumber writes a number into four bytes.
func putNumber(b []byte, n int) {
	for i := range 4 {
		b[i] = byte(n >> (24 - 8*i))
	}
}

// number reads a number from four bytes.
func number(b []byte) int {
	n := 0
	for _, c := range b {
		n = n<<8 + int(c)
	}
	return n
}
