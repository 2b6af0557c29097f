package nat_test

import (
	"math"
	"math/big"
	"math/rand"
	"strings"
	"testing"

	"rivermark/api"
	"rivermark/nat"
)

// bigOf returns the number that a string of bytes stands for.
func bigOf(a string) *big.Int { return new(big.Int).SetBytes([]byte(a)) }

// bytesOf returns the canonical string of a number.
func bytesOf(x *big.Int) string { return string(x.Bytes()) }

// zeros puts n zero bytes before a string.
func zeros(n int, a string) string { return strings.Repeat("\x00", n) + a }

// pattern returns n bytes, most of which are such that sums carry, and guesses of quotients are wrong.
func pattern(rng *rand.Rand, n int) string {
	b := make([]byte, n)
	for i := 0; i < n; {
		c := []byte{0, 0xff, 0x80, 0x7f, 1, byte(rng.Intn(256))}[rng.Intn(6)]
		for end := i + 1 + rng.Intn(12); i < end && i < n; i++ {
			b[i] = c
		}
	}
	return string(b)
}

// special returns the numbers next to powers of two, around the ends of words.
func special() []string {
	list := []string{""}
	one := big.NewInt(1)
	for _, bit := range []uint{0, 1, 7, 8, 9, 15, 16, 31, 32, 33, 62, 63, 64, 65, 72, 96, 127, 128, 129, 191, 192, 256} {
		p := new(big.Int).Lsh(one, bit)
		list = append(list, bytesOf(new(big.Int).Sub(p, one)), bytesOf(p), bytesOf(new(big.Int).Add(p, one)))
	}
	return list
}

// pairs calls a function with many pairs of numbers, canonical or not.
func pairs(f func(a, b string)) {
	list := special()
	for _, a := range list {
		for _, b := range list {
			f(a, b)
		}
	}
	rng := rand.New(rand.NewSource(4))
	for range 20000 {
		f(zeros(rng.Intn(3), pattern(rng, rng.Intn(60))), zeros(rng.Intn(3), pattern(rng, rng.Intn(40))))
	}
}

func TestValidAndClean(t *testing.T) {
	for _, x := range []struct {
		a     string
		valid bool
		clean string
	}{
		{"", true, ""}, {"\x00", false, ""}, {"\x00\x00\x00", false, ""}, {"\x01", true, "\x01"}, {"\x00\x01", false, "\x01"},
		{"\x01\x00", true, "\x01\x00"}, {"\x00\x00\x01\x00\x00", false, "\x01\x00\x00"}, {"0", true, "0"}, {"\x00\xff\x00", false, "\xff\x00"},
		{zeros(100000, "\x07"), false, "\x07"}, {"\xff", true, "\xff"}, {" \x00", true, " \x00"},
	} {
		if nat.Valid(x.a) != x.valid {
			t.Errorf("P4.1: Valid of %.20q", x.a)
		}
		if got := nat.Clean(x.a); got != x.clean || !nat.Valid(got) {
			t.Errorf("P4.1: Clean of %.20q is %.20q", x.a, got)
		}
	}
	for i := range 256 {
		a := string([]byte{byte(i), 5})
		if nat.Valid(a) != (i > 0) || nat.Clean(a) != bytesOf(bigOf(a)) {
			t.Errorf("P4.1: the byte %d and 5", i)
		}
	}
}

func TestInt(t *testing.T) {
	for _, n := range []int{0, 1, 2, 127, 128, 255, 256, 300, 65535, 65536, 1<<32 - 1, 1 << 32, 1<<56 - 1, 1 << 56, 1 << 62, math.MaxInt64 - 1, math.MaxInt64} {
		a, e := nat.Int(n)
		if a != bytesOf(big.NewInt(int64(n))) || e != api.OK {
			t.Errorf("P4.2: Int of %d is %x, %v", n, a, e)
		}
		for k := range 12 {
			if m, e := nat.Value(zeros(k, a)); m != n || e != api.OK {
				t.Errorf("P4.2: Value of %d with %d zero bytes is %d, %v", n, k, m, e)
			}
		}
	}
	for _, n := range []int{-1, -2, -256, math.MinInt64, math.MinInt64 + 1} {
		if a, e := nat.Int(n); a != "" || e != api.ErrRange {
			t.Errorf("P4.2: Int of %d is %x, %v", n, a, e)
		}
	}
}

func TestValueOfGreatNumbers(t *testing.T) {
	for _, a := range special() {
		x := bigOf(a)
		n, e := nat.Value(zeros(1, a))
		if x.IsInt64() && (int64(n) != x.Int64() || e != api.OK) || !x.IsInt64() && (n != 0 || e != api.ErrRange) {
			t.Errorf("P4.2: Value of %x is %d, %v", a, n, e)
		}
	}
	for _, a := range []string{"\xff\xff\xff\xff\xff\xff\xff\xff", "\x01\x00\x00\x00\x00\x00\x00\x00\x00", "\x01" + zeros(15, "\x07"), strings.Repeat("\xff", 1000)} {
		if n, e := nat.Value(a); n != 0 || e != api.ErrRange {
			t.Errorf("P4.2: Value of %.20x is %d, %v", a, n, e)
		}
	}
}

func TestCmp(t *testing.T) {
	pairs(func(a, b string) {
		if got := nat.Cmp(a, b); got != bigOf(a).Cmp(bigOf(b)) {
			t.Fatalf("P4.3: Cmp of %x and %x is %d", a, b, got)
		}
		if nat.Cmp(zeros(9, a), a) != 0 || nat.Cmp(a, zeros(1, a)) != 0 {
			t.Fatalf("P4.3: %x is not equal to itself", a)
		}
	})
	if nat.Cmp("", "\x00\x00") != 0 || nat.Cmp("\x02\x01", "\x01\x02") != 1 || nat.Cmp("\xff", "\x01\x00") != -1 || nat.Cmp("\x80", "\x7f") != 1 {
		t.Error("P4.3: Cmp")
	}
}

func TestAdd(t *testing.T) {
	pairs(func(a, b string) {
		want := bytesOf(new(big.Int).Add(bigOf(a), bigOf(b)))
		if got := nat.Add(a, b); got != want {
			t.Fatalf("P4.3: %x + %x is %x, not %x", a, b, got, want)
		}
	})
	if nat.Add("\xff", "\x01") != "\x01\x00" || nat.Add("", "") != "" || nat.Add("\x00", "") != "" {
		t.Error("P4.3: Add")
	}
	if got := nat.Add(strings.Repeat("\xff", 1000), "\x01"); got != "\x01"+zeros(1000, "") {
		t.Error("P4.3: a sum that carries through a thousand bytes")
	}
}

func TestSub(t *testing.T) {
	pairs(func(a, b string) {
		d := new(big.Int).Sub(bigOf(a), bigOf(b))
		got, e := nat.Sub(a, b)
		if d.Sign() < 0 && (got != "" || e != api.ErrRange) || d.Sign() >= 0 && (got != bytesOf(d) || e != api.OK) {
			t.Fatalf("P4.3: %x - %x is %x, %v", a, b, got, e)
		}
		if back, e := nat.Sub(nat.Add(a, b), zeros(1, b)); back != nat.Clean(a) || e != api.OK {
			t.Fatalf("P4.3: %x + %x - %x is %x, %v", a, b, b, back, e)
		}
	})
	if d, e := nat.Sub("\x01\x00", "\x01"); d != "\xff" || e != api.OK {
		t.Error("P4.3: 256 - 1")
	}
	if d, e := nat.Sub("\x01", "\x02"); d != "" || e != api.ErrRange {
		t.Error("P4.3: 1 - 2")
	}
	if d, e := nat.Sub("\x00", ""); d != "" || e != api.OK {
		t.Error("P4.3: 0 - 0")
	}
}

// TestAnyArguments covers P1: no function panics, whatever the strings are.
func TestAnyArguments(t *testing.T) {
	rng := rand.New(rand.NewSource(1))
	for range 3000 {
		a, b := pattern(rng, rng.Intn(200)), pattern(rng, rng.Intn(200))
		nat.Valid(a)
		nat.Value(a)
		nat.Text(a)
		nat.Parse(a)
		if sum := nat.Add(a, b); !nat.Valid(nat.Clean(a)) || !nat.Valid(sum) || !nat.Valid(nat.Mul(a, b)) || !nat.Valid(nat.Gcd(a, b)) {
			t.Fatalf("P4.1: a result for %x and %x is not canonical", a, b)
		}
		if d, e := nat.Sub(a, b); !nat.Valid(d) || (e != api.OK && e != api.ErrRange) {
			t.Fatalf("P4.3: Sub of %x and %x", a, b)
		}
		if q, r, e := nat.DivMod(a, b); !nat.Valid(q) || !nat.Valid(r) || (e != api.OK && e != api.ErrArg) {
			t.Fatalf("P4.4: DivMod of %x and %x", a, b)
		}
	}
}
