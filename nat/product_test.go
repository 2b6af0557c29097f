package nat_test

import (
	"math/big"
	"math/rand"
	"strings"
	"testing"

	"rivermark/api"
	"rivermark/nat"
)

func TestMul(t *testing.T) {
	pairs(func(a, b string) {
		want := bytesOf(new(big.Int).Mul(bigOf(a), bigOf(b)))
		if got := nat.Mul(a, b); got != want {
			t.Fatalf("P4.4: %x * %x is %x, not %x", a, b, got, want)
		}
	})
	if nat.Mul("\x01\x2c", "\x01\x2c") != "\x01\x5f\x90" || nat.Mul("", "\x05") != "" || nat.Mul("\x05", "\x00\x00") != "" {
		t.Error("P4.4: Mul")
	}
}

// checkDivMod checks a division, and that the numbers may begin with zero bytes.
func checkDivMod(t *testing.T, a, b string) {
	t.Helper()
	x, y := bigOf(a), bigOf(b)
	q, r, e := nat.DivMod(a, b)
	if y.Sign() == 0 {
		if q != "" || r != "" || e != api.ErrArg {
			t.Fatalf("P4.4: %x by 0 is %x, %x, %v", a, q, r, e)
		}
		return
	}
	wantQ, wantR := new(big.Int).QuoRem(x, y, new(big.Int))
	if q != bytesOf(wantQ) || r != bytesOf(wantR) || e != api.OK {
		t.Fatalf("P4.4: %x by %x is %x, %x, %v, not %x, %x", a, b, q, r, e, wantQ, wantR)
	}
}

func TestDivMod(t *testing.T) {
	pairs(func(a, b string) { checkDivMod(t, a, b) })
	if q, r, e := nat.DivMod("\x01\x5f\x91", "\x01\x2c"); q != "\x01\x2c" || r != "\x01" || e != api.OK {
		t.Error("P4.4: 90001 by 300")
	}
	for _, b := range []string{"", "\x00", zeros(30, "")} {
		for _, a := range []string{"", "\x00", "\x05", strings.Repeat("\xff", 30)} {
			if q, r, e := nat.DivMod(a, b); q != "" || r != "" || e != api.ErrArg {
				t.Errorf("P4.4: %x by 0 is %x, %x, %v", a, q, r, e)
			}
		}
	}
	if q, r, e := nat.DivMod("\x00\x00\x07", "\x00\x09"); q != "" || r != "\x07" || e != api.OK {
		t.Error("P4.4: 7 by 9, with zero bytes before them")
	}
}

// TestDivModNextToMultiples divides numbers that are a little less or more than a multiple of the divisor: there the guess of a digit is most often wrong.
func TestDivModNextToMultiples(t *testing.T) {
	rng := rand.New(rand.NewSource(44))
	for range 20000 {
		b := "\x01" + pattern(rng, rng.Intn(30))
		a := nat.Mul(b, pattern(rng, rng.Intn(30)))
		checkDivMod(t, a, b)
		checkDivMod(t, nat.Add(a, "\x01"), b)
		if less, e := nat.Sub(a, "\x01"); e == api.OK {
			checkDivMod(t, less, b)
		}
	}
}

// TestDivModOfSmallNumbers tries all of them.
func TestDivModOfSmallNumbers(t *testing.T) {
	for a := range 400 {
		for b := 1; b < 40; b++ {
			x, _ := nat.Int(a)
			y, _ := nat.Int(b)
			quotient, _ := nat.Int(a / b)
			rest, _ := nat.Int(a % b)
			if q, r, e := nat.DivMod(x, y); q != quotient || r != rest || e != api.OK {
				t.Fatalf("P4.4: %d by %d is %x, %x, %v", a, b, q, r, e)
			}
		}
	}
}

func TestGcd(t *testing.T) {
	pairs(func(a, b string) {
		want := bytesOf(new(big.Int).GCD(nil, nil, bigOf(a), bigOf(b)))
		if got := nat.Gcd(a, b); got != want {
			t.Fatalf("P4.4: Gcd of %x and %x is %x, not %x", a, b, got, want)
		}
	})
	for _, a := range special() {
		if nat.Gcd("", zeros(2, a)) != a || nat.Gcd(a, "\x00") != a || nat.Gcd(a, a) != a || nat.Gcd(a, "\x01") != "\x01" {
			t.Errorf("P4.4: Gcd of %x and 0, itself, or 1", a)
		}
	}
	if nat.Gcd("\x54", "\x24") != "\x0c" || nat.Gcd("", "\x05") != "\x05" || nat.Gcd("", "") != "" || nat.Gcd("\x00", "\x00\x00") != "" {
		t.Error("P4.4: Gcd")
	}
}

// TestGcdOfMultiples has numbers with a great common divisor, and long ones.
func TestGcdOfMultiples(t *testing.T) {
	rng := rand.New(rand.NewSource(444))
	for i := range 3000 {
		n := 30
		if i%100 == 0 {
			n = 3000
		}
		d := pattern(rng, rng.Intn(n))
		a, b := nat.Mul(d, pattern(rng, rng.Intn(n))), nat.Mul(d, pattern(rng, rng.Intn(n)))
		want := bytesOf(new(big.Int).GCD(nil, nil, bigOf(a), bigOf(b)))
		if got := nat.Gcd(a, b); got != want || nat.Gcd(b, a) != want {
			t.Fatalf("P4.4: Gcd of %x and %x is %x, not %x", a, b, got, want)
		}
	}
}

// TestGcdOfFibonacciNumbers takes the numbers whose divisions are the most: all quotients are 1.
func TestGcdOfFibonacciNumbers(t *testing.T) {
	a, b := "", "\x01"
	for i := range 3000 {
		a, b = b, nat.Add(a, b)
		if i%7 == 0 && nat.Gcd(a, b) != "\x01" {
			t.Fatalf("P4.4: Gcd of the Fibonacci numbers %d and %d", i+1, i+2)
		}
		if triple := nat.Mul(a, "\x03"); i%7 == 1 && nat.Gcd(nat.Mul(b, "\x03"), triple) != "\x03" {
			t.Fatalf("P4.4: Gcd of three times the Fibonacci numbers %d and %d", i+1, i+2)
		}
	}
}

// TestGcdOfAllKindsOfQuotients makes numbers from the quotients that their divisions give, small, great, and next to powers of two.
func TestGcdOfAllKindsOfQuotients(t *testing.T) {
	rng := rand.New(rand.NewSource(4444))
	list := special()[1:]
	for range 3000 {
		d := "\x01" + pattern(rng, rng.Intn(12))
		a, b := "", d
		rare := 1 + rng.Intn(40)
		for range rng.Intn(200) {
			quotient := string([]byte{byte(1 + rng.Intn(3))})
			if rng.Intn(rare) == 0 {
				quotient = list[rng.Intn(len(list))]
			}
			a, b = b, nat.Add(nat.Mul(quotient, b), a)
		}
		if nat.Gcd(a, b) != d || nat.Gcd(b, a) != d {
			t.Fatalf("P4.4: Gcd of %x and %x is not %x", a, b, d)
		}
	}
}
