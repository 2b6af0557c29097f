package rat

import (
	"rivermark/api"
	"rivermark/nat"
)

// one is the natural number 1.
const one = "\x01"

// fraction is num / den in lowest terms, negative if neg. Unlike in a number, 0 has the denominator 1, and no sign, so that it needs no rules of its own.
type fraction struct {
	neg      bool
	num, den string
}

// read returns the fraction of a number, which is 0 if the number is not valid.
func read(a api.Rat) fraction {
	if a.Num == "" || !Valid(a) {
		return fraction{den: one}
	}
	return fraction{a.Neg, a.Num, a.Den}
}

// rat returns the number of a fraction.
func (x fraction) rat() api.Rat {
	if x.num == "" {
		return api.Rat{}
	}
	return api.Rat{Neg: x.neg, Num: x.num, Den: x.den}
}

// negative returns -x.
func (x fraction) negative() fraction { return fraction{!x.neg && x.num != "", x.num, x.den} }

// inverse returns 1 / x; x is not 0.
func (x fraction) inverse() fraction { return fraction{x.neg, x.den, x.num} }

// sum returns the sum of fractions. Halves are added, so that few of the numbers that are added are long.
func sum(terms ...fraction) fraction {
	switch len(terms) {
	case 0:
		return fraction{den: one}
	case 1:
		return terms[0]
	}
	half := len(terms) / 2
	return sum(terms[:half]...).plus(sum(terms[half:]...))
}

// plus returns x + y. Only a divisor that both denominators have can also divide the new numerator: so where one of the denominators is short, no common divisor of two long numbers is looked for.
func (x fraction) plus(y fraction) fraction {
	common := gcd(x.den, y.den)
	mine, other := quotient(x.den, common), quotient(y.den, common)
	neg, num := signedSum(x.neg, product(x.num, other), y.neg, product(y.num, mine))
	if num == "" {
		return fraction{den: one}
	}
	rest := gcd(num, common)
	return fraction{neg, quotient(num, rest), product(mine, quotient(y.den, rest))}
}

// times returns x times y. As both are in lowest terms, only a numerator and the denominator of the other one can have a common divisor.
func (x fraction) times(y fraction) fraction {
	if x.num == "" || y.num == "" {
		return fraction{den: one}
	}
	first, second := gcd(x.num, y.den), gcd(y.num, x.den)
	num := product(quotient(x.num, first), quotient(y.num, second))
	den := product(quotient(x.den, second), quotient(y.den, first))
	return fraction{x.neg != y.neg, num, den}
}

// cmp returns -1, 0 or 1 as x is less than y, equal, or greater.
func (x fraction) cmp(y fraction) int {
	if x.neg && !y.neg {
		return -1
	}
	if y.neg && !x.neg {
		return 1
	}
	if x.neg {
		x, y = y, x
	}
	return nat.Cmp(product(x.num, y.den), product(y.num, x.den))
}

// floor returns the greatest integer that is not greater than x.
func (x fraction) floor() (int, api.Errno) {
	whole, rest, _ := nat.DivMod(x.num, x.den)
	if x.neg && rest != "" {
		whole = nat.Add(whole, one)
	}
	n, e := nat.Value(whole)
	if e != api.OK || !inRange(n) {
		return 0, api.ErrRange
	}
	if x.neg {
		n = -n
	}
	return n, api.OK
}

// signedSum returns the sum of two integers, given by signs and absolute values.
func signedSum(aNeg bool, a string, bNeg bool, b string) (neg bool, sum string) {
	if aNeg == bNeg {
		return aNeg, nat.Add(a, b)
	}
	if difference, e := nat.Sub(a, b); e == api.OK {
		return aNeg, difference
	}
	difference, _ := nat.Sub(b, a)
	return bNeg, difference
}

// quotient returns a natural number divided by one of its divisors. Here and below, 1 is by far the most frequent number, for which nothing has to be computed.
func quotient(a, divisor string) string {
	if divisor == one {
		return a
	}
	if divisor == a {
		return one
	}
	q, _, _ := nat.DivMod(a, divisor)
	return q
}

// product returns the product of two natural numbers.
func product(a, b string) string {
	if a == one {
		return b
	}
	if b == one {
		return a
	}
	return nat.Mul(a, b)
}

// gcd returns the greatest common divisor of two natural numbers.
func gcd(a, b string) string {
	if a == one || b == one {
		return one
	}
	if a == b {
		return a
	}
	return nat.Gcd(a, b)
}
