package rat_test

import (
	"math/rand"
	"testing"

	"rivermark/api"
	"rivermark/rat"
)

// triples calls a function with many triples of valid numbers.
func triples(f func(a, b, c api.Rat)) {
	rng := rand.New(rand.NewSource(57))
	valid := func() api.Rat {
		for {
			if a := number(rng); rat.Valid(a) {
				return a
			}
		}
	}
	for range 10000 {
		f(valid(), valid(), valid())
	}
}

func TestResultsAreValid(t *testing.T) {
	pairs(func(a, b api.Rat) {
		q, _ := rat.Div(a, b)
		for i, x := range []api.Rat{rat.Neg(a), rat.Add(a, b), rat.Sub(a, b), rat.Mul(a, b), q, rat.Sum([]api.Rat{a, b, a}), rat.Min(a, b), rat.Max(a, b)} {
			if !rat.Valid(x) {
				t.Fatalf("P5.7: the result %d of %#v and %#v is %#v", i, a, b, x)
			}
		}
	})
}

func TestField(t *testing.T) {
	one := rat.Int(1)
	triples(func(a, b, c api.Rat) {
		if rat.Add(a, b) != rat.Add(b, a) || rat.Mul(a, b) != rat.Mul(b, a) {
			t.Fatalf("P5.7: %#v and %#v do not commute", a, b)
		}
		if rat.Add(rat.Add(a, b), c) != rat.Add(a, rat.Add(b, c)) || rat.Mul(rat.Mul(a, b), c) != rat.Mul(a, rat.Mul(b, c)) {
			t.Fatalf("P5.7: %#v, %#v and %#v do not associate", a, b, c)
		}
		if rat.Mul(a, rat.Add(b, c)) != rat.Add(rat.Mul(a, b), rat.Mul(a, c)) {
			t.Fatalf("P5.7: %#v, %#v and %#v do not distribute", a, b, c)
		}
		if rat.Sum([]api.Rat{a, b, c}) != rat.Sum([]api.Rat{c, a, b}) {
			t.Fatalf("P5.7: the sum of %#v, %#v and %#v", a, b, c)
		}
		if rat.Sub(a, a) != (api.Rat{}) || rat.Add(a, rat.Neg(a)) != (api.Rat{}) || rat.Sub(a, b) != rat.Neg(rat.Sub(b, a)) || rat.Mul(a, one) != a || rat.Add(a, api.Rat{}) != a {
			t.Fatalf("P5.7: %#v less itself, or with 0 or 1", a)
		}
		if a == (api.Rat{}) {
			return
		}
		if q, e := rat.Div(a, a); q != one || e != api.OK {
			t.Fatalf("P5.7: %#v by itself is %#v, %#v", a, q, e)
		}
		if q, e := rat.Div(b, a); rat.Mul(q, a) != b || e != api.OK {
			t.Fatalf("P5.7: %#v by %#v is %#v, %#v", b, a, q, e)
		}
		if q, e := rat.Div(rat.Mul(b, a), a); q != b || e != api.OK {
			t.Fatalf("P5.7: %#v times %#v by it is %#v, %#v", b, a, q, e)
		}
	})
}

func TestOrder(t *testing.T) {
	triples(func(a, b, c api.Rat) {
		order := rat.Cmp(a, b)
		if order != -rat.Cmp(b, a) || (order == 0) != (a == b) {
			t.Fatalf("P5.8: Cmp of %#v and %#v is %d", a, b, order)
		}
		if order <= 0 && rat.Cmp(b, c) <= 0 && rat.Cmp(a, c) > 0 {
			t.Fatalf("P5.8: Cmp of %#v, %#v and %#v is not transitive", a, b, c)
		}
		if rat.Cmp(rat.Add(a, c), rat.Add(b, c)) != order {
			t.Fatalf("P5.8: %#v added to %#v and %#v", c, a, b)
		}
		if sign := rat.Cmp(c, api.Rat{}); rat.Cmp(rat.Mul(a, c), rat.Mul(b, c)) != order*sign {
			t.Fatalf("P5.8: %#v times %#v and %#v", c, a, b)
		}
	})
}

// TestNumbersThatAreNotValid covers that they count as 0 wherever they stand.
func TestNumbersThatAreNotValid(t *testing.T) {
	half := quotient(1, 2)
	for _, a := range invalid {
		if rat.Neg(a) != (api.Rat{}) || rat.Add(a, half) != half || rat.Add(half, a) != half || rat.Sub(half, a) != half || rat.Mul(a, half) != (api.Rat{}) || rat.Sum([]api.Rat{a, half, a}) != half || rat.Min(a, half) != (api.Rat{}) || rat.Max(a, rat.Neg(half)) != (api.Rat{}) || rat.Cmp(a, api.Rat{}) != 0 {
			t.Errorf("P5.1: %#v does not count as 0", a)
		}
		if q, e := rat.Div(half, a); q != (api.Rat{}) || e != api.ErrArg {
			t.Errorf("P5.3: 1/2 by %#v is %#v, %#v", a, q, e)
		}
		if n, e := rat.Floor(a); n != 0 || e != api.OK {
			t.Errorf("P5.5: Floor of %#v is %d, %#v", a, n, e)
		}
		if n, e := rat.Ceil(a); n != 0 || e != api.OK {
			t.Errorf("P5.5: Ceil of %#v is %d, %#v", a, n, e)
		}
	}
}
