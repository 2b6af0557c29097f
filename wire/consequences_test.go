package wire_test

import (
	"bytes"
	"math/big"
	"math/rand"
	"slices"
	"strings"
	"testing"

	"rivermark/api"
	"rivermark/wire"
)

// checkCode checks P1.6 for a value and its encoding: whatever follows, and for every proper prefix.
func checkCode[T any](t *testing.T, x T, b []byte, get func([]byte) (T, int, api.Errno), same func(T, T) bool) {
	t.Helper()
	for _, after := range [][]byte{nil, {0}, {1}, {128}, full(20)} {
		given := join(b, after)
		kept := slices.Clone(given)
		y, used, e := get(given)
		if !same(x, y) || used != len(b) || e != api.OK {
			t.Errorf("P1.6: decoding of %v, %v is %v, %d, %d, want %v", b, after, y, used, e, x)
		}
		if !bytes.Equal(given, kept) {
			t.Errorf("decoding changes its argument: %v, %v", given, kept)
		}
	}
	for i := range b {
		if _, used, e := get(b[:i:i]); used != 0 || e != api.ErrTruncated {
			t.Errorf("P1.6: decoding of the prefix %v of %v yields %d, %d", b[:i], b, used, e)
		}
	}
}

func equal[T comparable](x, y T) bool { return x == y }

func TestCodes(t *testing.T) {
	l := append(edges(), someInts(100)...)
	for _, n := range l {
		checkCode(t, n, wire.Int(n), wire.GetInt, equal)
	}
	var texts []string
	var digests []api.Digest
	for _, n := range []int{0, 1, 2, 63, 64, 65, 200} {
		texts = append(texts, string(bytes.Repeat([]byte{byte(n)}, n)))
		digests = append(digests, digest(byte(n)))
		checkCode(t, texts[len(texts)-1], wire.Bytes(texts[len(texts)-1]), wire.GetBytes, equal)
	}
	for i := range 8 {
		ints, some := l[i*i:2*i*i], texts[i/2:i]
		checkCode(t, ints, wire.Ints(ints), wire.GetInts, slices.Equal)
		checkCode(t, some, wire.Strings(some), wire.GetStrings, slices.Equal)
		checkCode(t, digests[:i], wire.Digests(digests[:i]), wire.GetDigests, slices.Equal)
	}
}

func TestLongCodes(t *testing.T) {
	many := make([]int, 5000)
	b := wire.Ints(many)
	if m, used, e := wire.GetInts(b); !slices.Equal(many, m) || used != len(b) || e != api.OK {
		t.Error("P1.6: 5000 integers:", len(m), used, e)
	}
	long := []string{strings.Repeat("long", 50000), "short"}
	b = wire.Strings(long)
	if m, used, e := wire.GetStrings(b); !slices.Equal(long, m) || used != len(b) || e != api.OK {
		t.Error("P1.6: a text of 200000 bytes:", len(m), used, e)
	}
}

// checkOnly checks the last part of P1.6: what is decoded has no other encoding. It returns whether something was decoded.
func checkOnly[T any](t *testing.T, b []byte, put func(T) []byte, get func([]byte) (T, int, api.Errno)) bool {
	t.Helper()
	x, used, e := get(b)
	switch {
	case e != api.OK:
		if used != 0 || e != api.ErrTruncated && e != api.ErrEncoding {
			t.Fatalf("decoding of %v yields %d, %d", b, used, e)
		}
		return false
	case used < 1 || used > len(b) || !bytes.Equal(b[:used], put(x)):
		t.Fatalf("P1.6: decoding of %v is %v, %d, with the encoding %v", b, x, used, put(x))
	}
	return true
}

// TestAnyBytes gives the decoders bytes of all kinds: none of them panics (P1), and none accepts what is no encoding (P1.6).
func TestAnyBytes(t *testing.T) {
	r := rand.New(rand.NewSource(3))
	var got [5]int
	for range 50000 {
		b := someBytes(r, r.Intn(60))
		if r.Intn(2) == 0 && len(b) > 0 {
			b[0] = byte(r.Intn(8))
		}
		for i, ok := range []bool{
			checkOnly(t, b, wire.Int, wire.GetInt),
			checkOnly(t, b, wire.Bytes, wire.GetBytes),
			checkOnly(t, b, wire.Ints, wire.GetInts),
			checkOnly(t, b, wire.Strings, wire.GetStrings),
			checkOnly(t, b, wire.Digests, wire.GetDigests),
		} {
			if ok {
				got[i]++
			}
		}
	}
	if slices.Min(got[:]) < 1000 {
		t.Error("too few of the byte sequences are encodings:", got)
	}
}

// distance returns twice the distance of an integer from -1/2.
func distance(n int) *big.Int {
	d := big.NewInt(int64(n))
	d.Mul(d, big.NewInt(2)).Add(d, big.NewInt(1))
	return d.Abs(d)
}

func TestIntLengths(t *testing.T) {
	l := append(edges(), someInts(1000)...)
	slices.SortFunc(l, func(n, m int) int { return distance(n).Cmp(distance(m)) })
	before := 1
	for _, n := range l {
		size := len(wire.Int(n))
		if size < 1 || size > 10 || (size == 1) != (n >= -64 && n <= 63) {
			t.Errorf("P1.7: the encoding of %d has %d bytes", n, size)
		}
		if other := len(wire.Int(-1 - n)); other != size {
			t.Errorf("P1.7: the encodings of %d and %d have %d and %d bytes", n, -1-n, size, other)
		}
		if size < before {
			t.Errorf("P1.7: the encoding of %d has %d bytes, fewer than that of an integer not further from -1/2", n, size)
		}
		before = size
	}
	if before != 10 {
		t.Errorf("P1.7: the longest encoding has %d bytes", before)
	}
}
