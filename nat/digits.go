package nat

import "math/bits"

// digits are those of a number to the base 2^64, the lowest one first. Unless it says otherwise, a method expects and returns digits of which the last one is not 0, and changes none of them.
type digits []uint64

// wordBytes is the number of bytes of a digit.
const wordBytes = 8

// read returns the digits of a number.
func read(a string) digits {
	a = Clean(a)
	x := make(digits, (len(a)+wordBytes-1)/wordBytes)
	for i := range len(a) {
		x[i/wordBytes] |= uint64(a[len(a)-1-i]) << (8 * (i % wordBytes))
	}
	return x
}

// text returns the canonical string of a number, whose last digits may be 0.
func (x digits) text() string {
	b := make([]byte, wordBytes*len(x))
	for i := range b {
		b[len(b)-1-i] = byte(x[i/wordBytes] >> (8 * (i % wordBytes)))
	}
	return Clean(string(b))
}

// trim returns digits without those at the end that are 0.
func (x digits) trim() digits {
	for len(x) > 0 && x[len(x)-1] == 0 {
		x = x[:len(x)-1]
	}
	return x
}

// digit returns the digit at a place, which is 0 beyond the last one.
func (x digits) digit(place int) uint64 {
	if place >= len(x) {
		return 0
	}
	return x[place]
}

// product returns the two digits of f times the digit at a place, plus what is carried to it.
func (x digits) product(place int, f, carry uint64) (high, low uint64) {
	high, low = bits.Mul64(x.digit(place), f)
	low, c := bits.Add64(low, carry, 0)
	return high + c, low
}

// addTimes adds f times y to x, in the memory of x, which is at least as long as y, and returns what is carried beyond it.
func (x digits) addTimes(y digits, f uint64) (carry uint64) {
	for i := range x {
		high, low := y.product(i, f, carry)
		x[i], carry = bits.Add64(x[i], low, 0)
		carry += high
	}
	return carry
}

// takeTimes subtracts f times y from x, in the memory of x, which is at least as long as y, and returns what is borrowed from beyond it.
func (x digits) takeTimes(y digits, f uint64) (borrow uint64) {
	for i := range x {
		high, low := y.product(i, f, borrow)
		x[i], borrow = bits.Sub64(x[i], low, 0)
		borrow += high
	}
	return borrow
}

// plus returns the sum of two numbers.
func (x digits) plus(y digits) digits {
	sum := make(digits, max(len(x), len(y))+1)
	copy(sum, x)
	sum.addTimes(y, 1)
	return sum.trim()
}

// less returns f times x less g times y, which is not negative.
func less(x digits, f uint64, y digits, g uint64) digits {
	rest := make(digits, max(len(x), len(y))+1)
	rest.addTimes(x, f)
	rest.takeTimes(y, g)
	return rest.trim()
}

// times returns the product of two numbers.
func (x digits) times(y digits) digits {
	product := make(digits, len(x)+len(y))
	for i, f := range x {
		product[i:i+len(y)+1].addTimes(y, f)
	}
	return product.trim()
}

// divMod returns the quotient and the remainder of a number by another one, which is not 0.
func (x digits) divMod(y digits) (quotient, rest digits) {
	n := len(y)
	if len(x) < n {
		return nil, x
	}
	// With a divisor whose highest bit is set, a guess is too great by at most 2.
	shift := bits.LeadingZeros64(y[n-1])
	divisor := y.up(shift)[:n]
	rest = x.up(shift)
	quotient = make(digits, len(x)-n+1)
places:
	for i := len(quotient) - 1; i >= 0; i-- {
		window := rest[i : i+n+1]
		quotient[i] = guess(window[n], window[n-1], divisor[n-1])
		if window.takeTimes(divisor, quotient[i]) == 0 {
			continue places
		}
		for {
			quotient[i]--
			if window.addTimes(divisor, 1) > 0 {
				continue places
			}
		}
	}
	return quotient.trim(), rest.down(shift).trim()
}

// guess returns a digit of a quotient, which is not less than the true one, from the two highest digits that are left and the highest one of the divisor.
func guess(high, low, divisor uint64) uint64 {
	if high >= divisor {
		return 1<<64 - 1
	}
	q, _ := bits.Div64(high, low, divisor)
	return q
}

// up returns 2^shift times a number in new memory, with one digit more, which may be 0; shift is less than 64.
func (x digits) up(shift int) digits {
	product := make(digits, len(x)+1)
	product.addTimes(x, 1<<shift)
	return product
}

// down divides a number by 2^shift, in its own memory, and returns it; shift is less than 64.
func (x digits) down(shift int) digits {
	for i := range x {
		x[i] >>= shift
		if i+1 < len(x) {
			x[i] |= x[i+1] << (64 - shift)
		}
	}
	return x
}
