package wire_test

import (
	"bytes"
	"math"
	"math/big"
	"math/rand"
	"slices"
	"testing"

	"rivermark/api"
	"rivermark/wire"
)

// join puts byte sequences one after the other.
func join(parts ...[]byte) []byte { return bytes.Join(parts, nil) }

// full returns n bytes 255.
func full(n int) []byte { return bytes.Repeat([]byte{255}, n) }

// edges returns the integers at which the length of the encoding changes, their neighbours, and the ends of the range.
func edges() []int {
	l := []int{0, 1, -1, 300, -300, math.MaxInt, math.MaxInt - 1, math.MinInt, math.MinInt + 1}
	for bits := 6; bits < 63; bits++ {
		p := 1 << bits
		l = append(l, p-1, p, p+1, -p-1, -p, -p+1)
	}
	return l
}

// encoding is P1.1, word by word, with numbers of any size.
func encoding(n int) []byte {
	z := new(big.Int).Mul(big.NewInt(2), big.NewInt(int64(n)))
	if n < 0 {
		z.Neg(z).Sub(z, big.NewInt(1))
	}
	base, digit := big.NewInt(128), new(big.Int)
	var b []byte
	for {
		z.DivMod(z, base, digit)
		if z.Sign() == 0 {
			return append(b, byte(digit.Int64()))
		}
		b = append(b, byte(digit.Int64())+128)
	}
}

// decoding is P1.2, word by word, with numbers of any size.
func decoding(b []byte) (int, int, api.Errno) {
	end := slices.IndexFunc(b[:min(len(b), 10)], func(c byte) bool { return c < 128 })
	switch {
	case end < 0 && len(b) >= 10:
		return 0, 0, api.ErrEncoding
	case end < 0:
		return 0, 0, api.ErrTruncated
	case end == 9 && b[end] > 1, end > 0 && b[end] == 0:
		return 0, 0, api.ErrEncoding
	}
	z := new(big.Int)
	for i := end; i >= 0; i-- {
		z.Mul(z, big.NewInt(128)).Add(z, big.NewInt(int64(b[i]%128)))
	}
	odd := z.Bit(0) == 1
	if odd {
		z.Add(z, big.NewInt(1)).Neg(z)
	}
	return int(z.Quo(z, big.NewInt(2)).Int64()), end + 1, api.OK
}

func TestIntExamples(t *testing.T) {
	for _, x := range []struct {
		n    int
		want []byte
	}{
		{0, []byte{0}},
		{1, []byte{2}},
		{63, []byte{126}},
		{64, []byte{128, 1}},
		{8191, []byte{254, 127}},
		{8192, []byte{128, 128, 1}},
		{-1, []byte{1}},
		{-64, []byte{127}},
		{-65, []byte{129, 1}},
		{math.MaxInt, join([]byte{254}, full(8), []byte{1})},
		{math.MinInt, join(full(9), []byte{1})},
	} {
		if b := wire.Int(x.n); !bytes.Equal(b, x.want) {
			t.Errorf("P1.1: Int(%d) = %v, want %v", x.n, b, x.want)
		}
		if n, used, e := wire.GetInt(x.want); n != x.n || used != len(x.want) || e != api.OK {
			t.Errorf("P1.2: GetInt(%v) = %d, %d, %d", x.want, n, used, e)
		}
	}
}

func TestIntIsAsDefined(t *testing.T) {
	for _, n := range append(edges(), someInts(2000)...) {
		if b := wire.Int(n); !bytes.Equal(b, encoding(n)) {
			t.Errorf("P1.1: Int(%d) = %v, want %v", n, b, encoding(n))
		}
	}
}

func TestGetIntErrors(t *testing.T) {
	for _, x := range []struct {
		b []byte
		e api.Errno
	}{
		{nil, api.ErrTruncated},
		{[]byte{}, api.ErrTruncated},
		{[]byte{128}, api.ErrTruncated},
		{[]byte{255}, api.ErrTruncated},
		{full(9), api.ErrTruncated},
		{bytes.Repeat([]byte{128}, 9), api.ErrTruncated},
		{full(10), api.ErrEncoding},
		{bytes.Repeat([]byte{128}, 10), api.ErrEncoding},
		{join(full(10), []byte{1}), api.ErrEncoding},
		{join(full(9), []byte{2}), api.ErrEncoding},
		{join(full(9), []byte{127}), api.ErrEncoding},
		{join(full(9), []byte{129}), api.ErrEncoding},
		{join(full(9), []byte{0}), api.ErrEncoding},
		{[]byte{128, 0}, api.ErrEncoding},
		{[]byte{255, 0}, api.ErrEncoding},
		{[]byte{255, 128, 0, 1}, api.ErrEncoding},
	} {
		if n, used, e := wire.GetInt(x.b); n != 0 || used != 0 || e != x.e {
			t.Errorf("P1.2: GetInt(%v) = %d, %d, %d, want the error %d", x.b, n, used, e, x.e)
		}
	}
}

// checkGetInt compares GetInt with P1.2.
func checkGetInt(t *testing.T, b []byte) {
	t.Helper()
	n, used, e := wire.GetInt(b)
	if m, size, f := decoding(b); n != m || used != size || e != f {
		t.Fatalf("P1.2: GetInt(%v) = %d, %d, %d, want %d, %d, %d", b, n, used, e, m, size, f)
	}
}

func TestGetIntIsAsDefined(t *testing.T) {
	for i := range 256 {
		checkGetInt(t, []byte{byte(i)})
		for j := range 256 {
			checkGetInt(t, []byte{byte(i), byte(j)})
		}
	}
	marks := []byte{0, 1, 2, 127, 128, 129, 255}
	for size := 2; size < 12; size++ {
		for _, fill := range []byte{128, 170, 255} {
			for _, last := range marks {
				for _, after := range marks {
					checkGetInt(t, append(bytes.Repeat([]byte{fill}, size-1), last, after))
					checkGetInt(t, append(bytes.Repeat([]byte{fill}, size-1), last))
				}
			}
		}
	}
	r := rand.New(rand.NewSource(1))
	for range 20000 {
		checkGetInt(t, someBytes(r, r.Intn(13)))
	}
}

// someInts returns n integers of all sizes, the same ones in each run.
func someInts(n int) []int {
	r := rand.New(rand.NewSource(2))
	l := make([]int, n)
	for i := range l {
		l[i] = int(r.Uint64()) >> r.Intn(64)
	}
	return l
}

// someBytes returns n bytes, of which many go on, and many are small.
func someBytes(r *rand.Rand, n int) []byte {
	b := make([]byte, n)
	for i := range b {
		switch r.Intn(4) {
		case 0:
			b[i] = byte(r.Intn(8))
		case 1:
			b[i] = byte(r.Intn(256))
		default:
			b[i] = byte(128 + r.Intn(128))
		}
	}
	return b
}
