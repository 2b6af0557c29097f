package nat

import "math/bits"

// Gcd returns the greatest common divisor of two numbers.
func Gcd(a, b string) string {
	var common func(x, y digits) digits
	common = func(x, y digits) digits {
		switch {
		case len(x) < len(y):
			return common(y, x)
		case len(y) == 0:
			return x
		case len(x) == 1:
			return digits{commonOfWords(x[0], y[0])}
		}
		// To divide long numbers is slow; so several divisions are done at once, as far as their quotients can be guessed.
		if s := guessSteps(leading(x, y)); s.count > 0 {
			return common(s.apply(x, y))
		}
		_, rest := x.divMod(y)
		return common(y, rest)
	}
	return common(read(a), read(b)).text()
}

// commonOfWords returns the greatest common divisor of two numbers.
func commonOfWords(x, y uint64) uint64 {
	for y > 0 {
		x, y = y, x%y
	}
	return x
}

// steps are divisions, of x by y, and then again and again of a divisor by its remainder. The last divisor and the last remainder are differences of multiples of x and y. With other quotients they have the same common divisors, as long as they are not negative.
type steps struct {
	count         int
	divisor, rest difference
}

// difference says how often x and y are taken. One of them is taken away: y in a divisor after an even number of steps and in the remainder after an odd one, and x otherwise.
type difference struct{ x, y uint64 }

// next returns the difference of the remainder of the division of d by other.
func (d difference) next(other difference, quotient uint64) difference {
	return difference{d.x + quotient*other.x, d.y + quotient*other.y}
}

// leading returns 64 bits of x, which has at least two digits, and those of y, which has no more, at the same places: the highest ones of the greater of the two.
func leading(x, y digits) (uint64, uint64) {
	n := len(x)
	shift := bits.LeadingZeros64(x[n-1] | y.digit(n-1))
	at := func(d digits) uint64 { return d.digit(n-1)<<shift | d.digit(n-2)>>(64-shift) }
	return at(x), at(y)
}

// guessSteps returns steps with the quotients that the leading bits of x and y give. For all numbers that begin with these bits, no remainder is negative.
func guessSteps(x, y uint64) steps {
	s := steps{divisor: difference{1, 0}, rest: difference{0, 1}}
	for 0 < y && y < x {
		rest := x % y
		next := s.divisor.next(s.rest, x/y)
		// The bits that follow change a remainder by less than the greater multiple in it, which is that of y.
		if rest < next.y {
			break
		}
		x, y = y, rest
		s = steps{s.count + 1, s.rest, next}
	}
	return s
}

// apply returns the last divisor and the last remainder of x and y.
func (s steps) apply(x, y digits) (divisor, rest digits) {
	d, r := s.divisor, s.rest
	if s.count%2 == 0 {
		return less(x, d.x, y, d.y), less(y, r.y, x, r.x)
	}
	return less(y, d.y, x, d.x), less(x, r.x, y, r.y)
}
