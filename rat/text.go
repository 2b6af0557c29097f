package rat

import (
	"strings"

	"rivermark/api"
	"rivermark/nat"
)

// Text returns the text of a number.
func Text(a api.Rat) string {
	x := read(a)
	var b strings.Builder
	join := func(sign, part string) {
		b.WriteString(sign)
		b.WriteString(nat.Text(part))
	}
	if x.neg {
		join("-", x.num)
	} else {
		join("", x.num)
	}
	if x.den != one {
		join("/", x.den)
	}
	return b.String()
}

// Parse returns the number with a text.
func Parse(s string) (api.Rat, api.Errno) {
	if len(s) > api.MaxDigits {
		return api.Rat{}, api.ErrLimit
	}
	rest, neg := strings.CutPrefix(s, "-")
	above, below, cut := strings.Cut(rest, "/")
	if !cut {
		below = "1"
	}
	num, _ := nat.Parse(above)
	den, _ := nat.Parse(below)
	// Digits that are none are read as 0. That and what is not the form that a number has, as 2/4, 3/1 or -0, leads to another text.
	a := fraction{neg, num, den}.rat()
	if Text(a) != s {
		return api.Rat{}, api.ErrNumber
	}
	return a, api.OK
}
