package nat_test

import (
	"math/rand"
	"testing"

	"rivermark/api"
	"rivermark/nat"
)

// triples calls a function with many triples of numbers, canonical or not.
func triples(f func(a, b, c string)) {
	rng := rand.New(rand.NewSource(46))
	for range 10000 {
		f(pattern(rng, rng.Intn(30)), pattern(rng, rng.Intn(30)), pattern(rng, rng.Intn(30)))
	}
}

func TestLawsOfSumsAndProducts(t *testing.T) {
	triples(func(a, b, c string) {
		if nat.Add(a, b) != nat.Add(b, a) || nat.Mul(a, b) != nat.Mul(b, a) {
			t.Fatalf("P4.6: %x and %x do not commute", a, b)
		}
		if nat.Add(nat.Add(a, b), c) != nat.Add(a, nat.Add(b, c)) || nat.Mul(nat.Mul(a, b), c) != nat.Mul(a, nat.Mul(b, c)) {
			t.Fatalf("P4.6: %x, %x and %x do not associate", a, b, c)
		}
		if nat.Mul(a, nat.Add(b, c)) != nat.Add(nat.Mul(a, b), nat.Mul(a, c)) {
			t.Fatalf("P4.6: %x, %x and %x do not distribute", a, b, c)
		}
	})
}

func TestOrderIsRespected(t *testing.T) {
	triples(func(a, b, c string) {
		order := nat.Cmp(a, b)
		if nat.Cmp(nat.Add(a, c), nat.Add(b, c)) != order {
			t.Fatalf("P4.6: sums of %x and %x with %x", a, b, c)
		}
		product := nat.Cmp(nat.Mul(a, c), nat.Mul(b, c))
		if zero := nat.Clean(c) == ""; zero && product != 0 || !zero && product != order {
			t.Fatalf("P4.6: products of %x and %x with %x", a, b, c)
		}
		if nat.Cmp(b, a) != -order {
			t.Fatalf("P4.6: %x and %x the other way round", a, b)
		}
	})
}

// TestDivisionIsUnique covers the rest of P4.6: the quotient and the remainder satisfy what determines them, and q times b plus r gives them back, for all q and all r less than b.
func TestDivisionIsUnique(t *testing.T) {
	triples(func(a, b, c string) {
		if nat.Clean(b) == "" {
			return
		}
		q, r, e := nat.DivMod(a, b)
		if e != api.OK || nat.Add(nat.Mul(q, b), r) != nat.Clean(a) || nat.Cmp(r, b) >= 0 {
			t.Fatalf("P4.6: %x by %x is %x, %x, %v", a, b, q, r, e)
		}
		_, less, _ := nat.DivMod(c, b)
		if q, r, e := nat.DivMod(nat.Add(nat.Mul(a, b), less), b); e != api.OK || q != nat.Clean(a) || r != less {
			t.Fatalf("P4.6: %x times %x plus %x, divided again: %x, %x, %v", a, b, less, q, r, e)
		}
	})
}

func TestGcdIsTheGreatest(t *testing.T) {
	divides := func(d, a string) bool {
		_, r, e := nat.DivMod(a, d)
		return e == api.OK && r == "" || nat.Clean(d) == "" && nat.Clean(a) == ""
	}
	triples(func(a, b, c string) {
		d := nat.Gcd(a, b)
		if !divides(d, a) || !divides(d, b) {
			t.Fatalf("P4.7: %x does not divide %x and %x", d, a, b)
		}
		// c divides both of these numbers, and so it has to divide their greatest common divisor.
		if d := nat.Gcd(nat.Mul(a, c), nat.Mul(c, b)); !divides(c, d) || d != nat.Mul(nat.Gcd(a, b), c) {
			t.Fatalf("P4.7: %x of %x and %x times %x", d, a, b, c)
		}
	})
	number := func(n int) string { a, _ := nat.Int(n); return a }
	for a := range 60 {
		for b := range 60 {
			d := nat.Gcd(number(a), number(b))
			for c := range 60 {
				if both := divides(number(c), number(a)) && divides(number(c), number(b)); both != divides(number(c), d) {
					t.Fatalf("P4.7: %d and the common divisor of %d and %d", c, a, b)
				}
			}
		}
	}
}
