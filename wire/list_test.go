package wire_test

import (
	"bytes"
	"math"
	"runtime"
	"slices"
	"strings"
	"testing"

	"rivermark/api"
	"rivermark/wire"
)

// digest returns a digest whose bytes count up from a number.
func digest(from byte) api.Digest {
	var d api.Digest
	for i := range d {
		d[i] = from + byte(i)
	}
	return d
}

func TestBytes(t *testing.T) {
	long := strings.Repeat("x\x00\xff", 30)
	for _, x := range []struct {
		s    string
		want []byte
	}{
		{"", []byte{0}},
		{"ab", []byte{4, 97, 98}},
		{"\x00", []byte{2, 0}},
		{"\xff\x80", []byte{4, 255, 128}},
		{strings.Repeat("a", 63), join([]byte{126}, bytes.Repeat([]byte{97}, 63))},
		{strings.Repeat("a", 64), join([]byte{128, 1}, bytes.Repeat([]byte{97}, 64))},
		{long, join([]byte{180, 1}, []byte(long))},
	} {
		if b := wire.Bytes(x.s); !bytes.Equal(b, x.want) {
			t.Errorf("P1.3: Bytes(%q) = %v, want %v", x.s, b, x.want)
		}
		if s, used, e := wire.GetBytes(append(x.want, 99)); s != x.s || used != len(x.want) || e != api.OK {
			t.Errorf("P1.3: GetBytes(%v) = %q, %d, %d", x.want, s, used, e)
		}
	}
}

func TestGetBytesErrors(t *testing.T) {
	for _, x := range []struct {
		b []byte
		e api.Errno
	}{
		{nil, api.ErrTruncated},
		{[]byte{130}, api.ErrTruncated},
		{[]byte{130, 0}, api.ErrEncoding},
		{full(10), api.ErrEncoding},
		{[]byte{1}, api.ErrEncoding},
		{[]byte{3, 97, 98}, api.ErrEncoding},
		{wire.Int(math.MinInt), api.ErrEncoding},
		{[]byte{2}, api.ErrTruncated},
		{[]byte{4, 97}, api.ErrTruncated},
		{join(wire.Int(64), make([]byte, 63)), api.ErrTruncated},
		{join(wire.Int(math.MaxInt), []byte{97}), api.ErrTruncated},
		{wire.Int(math.MaxInt - 9), api.ErrTruncated},
	} {
		if s, used, e := wire.GetBytes(x.b); s != "" || used != 0 || e != x.e {
			t.Errorf("P1.3: GetBytes(%v) = %q, %d, %d, want the error %d", x.b, s, used, e, x.e)
		}
	}
}

// checkList checks the encoding of a list, and that it decodes to the list.
func checkList[T comparable](t *testing.T, l []T, want []byte, put func([]T) []byte, get func([]byte) ([]T, int, api.Errno)) {
	t.Helper()
	if b := put(l); !bytes.Equal(b, want) {
		t.Errorf("P1.4: encoding of %v is %v, want %v", l, b, want)
	}
	if m, used, e := get(join(want, []byte{99})); !slices.Equal(m, l) || used != len(want) || e != api.OK {
		t.Errorf("P1.5: decoding of %v is %v, %d, %d", want, m, used, e)
	}
}

func TestLists(t *testing.T) {
	checkList(t, nil, []byte{0}, wire.Ints, wire.GetInts)
	checkList(t, []int{}, []byte{0}, wire.Ints, wire.GetInts)
	checkList(t, []int{1, -1}, []byte{4, 2, 1}, wire.Ints, wire.GetInts)
	checkList(t, []int{64, 0, math.MinInt}, join([]byte{6, 128, 1, 0}, full(9), []byte{1}), wire.Ints, wire.GetInts)
	checkList(t, make([]int, 70), join([]byte{140, 1}, make([]byte, 70)), wire.Ints, wire.GetInts)
	checkList(t, nil, []byte{0}, wire.Strings, wire.GetStrings)
	checkList(t, []string{"", "a"}, []byte{4, 0, 2, 97}, wire.Strings, wire.GetStrings)
	checkList(t, []string{"\x00b", ""}, []byte{4, 4, 0, 98, 0}, wire.Strings, wire.GetStrings)
	checkList(t, make([]string, 64), join([]byte{128, 1}, make([]byte, 64)), wire.Strings, wire.GetStrings)
	one, two := digest(1), digest(100)
	checkList(t, nil, []byte{0}, wire.Digests, wire.GetDigests)
	checkList(t, []api.Digest{{}}, join([]byte{2}, make([]byte, 16)), wire.Digests, wire.GetDigests)
	checkList(t, []api.Digest{two, one}, join([]byte{4}, two[:], one[:]), wire.Digests, wire.GetDigests)
}

// checkError checks that a decoder returns an error, and nothing else.
func checkError[T any](t *testing.T, b []byte, want api.Errno, get func([]byte) ([]T, int, api.Errno)) {
	t.Helper()
	if l, used, e := get(b); len(l) != 0 || used != 0 || e != want {
		t.Errorf("P1.5: decoding of %v is %v, %d, %d, want the error %d", b, l, used, e, want)
	}
}

func TestLengthErrors(t *testing.T) {
	for _, x := range []struct {
		b []byte
		e api.Errno
	}{
		{nil, api.ErrTruncated},
		{[]byte{128}, api.ErrTruncated},
		{full(9), api.ErrTruncated},
		{full(10), api.ErrEncoding},
		{[]byte{130, 0, 0}, api.ErrEncoding},
		{join(full(9), []byte{2, 0}), api.ErrEncoding},
		{[]byte{1}, api.ErrEncoding},
		{[]byte{3, 0, 0}, api.ErrEncoding},
		{wire.Int(math.MinInt), api.ErrEncoding},
		{[]byte{2}, api.ErrTruncated},
		{wire.Int(1 << 40), api.ErrTruncated},
		// 16 times these lengths is 0, 16 and -16 in 64 bits.
		{join(wire.Int(1<<60), make([]byte, 40)), api.ErrTruncated},
		{join(wire.Int(1<<60+1), make([]byte, 40)), api.ErrTruncated},
		{join(wire.Int(math.MaxInt), make([]byte, 40)), api.ErrTruncated},
	} {
		checkError(t, x.b, x.e, wire.GetInts)
		checkError(t, x.b, x.e, wire.GetStrings)
		checkError(t, x.b, x.e, wire.GetDigests)
	}
}

func TestElementErrors(t *testing.T) {
	checkError(t, []byte{4, 128, 0}, api.ErrEncoding, wire.GetInts)
	checkError(t, []byte{4, 0, 128}, api.ErrTruncated, wire.GetInts)
	checkError(t, []byte{4, 0, 128, 0}, api.ErrEncoding, wire.GetInts)
	checkError(t, []byte{4, 128, 1}, api.ErrTruncated, wire.GetInts)
	checkError(t, join([]byte{2}, full(10)), api.ErrEncoding, wire.GetInts)
	checkError(t, []byte{4, 0, 1}, api.ErrEncoding, wire.GetStrings)
	checkError(t, []byte{4, 0, 2}, api.ErrTruncated, wire.GetStrings)
	checkError(t, []byte{4, 0, 128, 0}, api.ErrEncoding, wire.GetStrings)
	checkError(t, []byte{4, 4, 97}, api.ErrTruncated, wire.GetStrings)
	// Too few bytes for so many elements comes before the errors of the elements.
	checkError(t, []byte{6, 128, 0}, api.ErrTruncated, wire.GetInts)
	checkError(t, []byte{6, 1, 1}, api.ErrTruncated, wire.GetStrings)
	// The first element that cannot be decoded decides.
	checkError(t, []byte{4, 1, 128}, api.ErrEncoding, wire.GetStrings)
	checkError(t, []byte{4, 10, 1}, api.ErrTruncated, wire.GetStrings)
	checkError(t, join([]byte{2}, make([]byte, 15)), api.ErrTruncated, wire.GetDigests)
	checkError(t, join([]byte{4}, make([]byte, 31)), api.ErrTruncated, wire.GetDigests)
	checkError(t, join(wire.Int(1000), make([]byte, 1000)), api.ErrTruncated, wire.GetDigests)
}

// allocated returns how many bytes a call allocates.
func allocated(call func()) uint64 {
	var before, after runtime.MemStats
	runtime.ReadMemStats(&before)
	call()
	runtime.ReadMemStats(&after)
	return after.TotalAlloc - before.TotalAlloc
}

func TestDecodingAllocatesLittle(t *testing.T) {
	b := join(wire.Int(1<<24), make([]byte, 100))
	const most = 1 << 20 // far more than 100 bytes need, far less than 2^24 elements
	for name, get := range map[string]func(){
		"GetBytes":   func() { wire.GetBytes(b) },
		"GetInts":    func() { wire.GetInts(b) },
		"GetStrings": func() { wire.GetStrings(b) },
		"GetDigests": func() { wire.GetDigests(b) },
	} {
		if n := allocated(get); n > most {
			t.Errorf("%s of %d bytes allocates %d bytes", name, len(b), n)
		}
	}
}

func TestResultsAreNewMemory(t *testing.T) {
	b := []byte{4, 97, 98}
	s, _, _ := wire.GetBytes(b)
	c := []byte{2, 4, 97, 98}
	l, _, _ := wire.GetStrings(c)
	d := wire.Digests([]api.Digest{digest(7)})
	g, _, _ := wire.GetDigests(d)
	clear(b)
	clear(c)
	clear(d)
	if s != "ab" || !slices.Equal(l, []string{"ab"}) || !slices.Equal(g, []api.Digest{digest(7)}) {
		t.Error("P1.3, P1.5: results share memory with arguments:", s, l, g)
	}
	for name, put := range map[string]func() []byte{
		"Int":     func() []byte { return wire.Int(5) },
		"Bytes":   func() []byte { return wire.Bytes("") },
		"Ints":    func() []byte { return wire.Ints(nil) },
		"Strings": func() []byte { return wire.Strings(nil) },
		"Digests": func() []byte { return wire.Digests(nil) },
	} {
		first := put()
		kept := slices.Clone(first)
		clear(first)
		first[0] = 77
		if second := put(); !bytes.Equal(second, kept) {
			t.Errorf("%s: two results share memory: %v", name, second)
		}
	}
}
