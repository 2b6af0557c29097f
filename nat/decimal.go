package nat

import (
	"slices"
	"strconv"
	"strings"

	"rivermark/api"
)

const (
	groupLength = 19                   // the most decimal digits that always fit into a word
	groupBase   = 10000000000000000000 // 10^groupLength
)

// Text returns the decimal digits of a number.
func Text(a string) string {
	groups := read(a).groups()
	var b strings.Builder
	for i, g := range groups {
		s := strconv.FormatUint(g, 10)
		if i > 0 {
			b.WriteString(strings.Repeat("0", groupLength-len(s)))
		}
		b.WriteString(s)
	}
	return b.String()
}

// groups returns the digits of a number to the base groupBase, the highest one first; 0 has one.
func (x digits) groups() []uint64 {
	var groups []uint64
	for len(x) > 1 || x.digit(0) >= groupBase {
		var rest digits
		x, rest = x.divMod(digits{groupBase})
		groups = append(groups, rest.digit(0))
	}
	groups = append(groups, x.digit(0))
	slices.Reverse(groups)
	return groups
}

// Parse returns the number that decimal digits stand for.
func Parse(s string) (string, api.Errno) {
	if !isText(s) {
		return "", api.ErrNumber
	}
	var x digits
	for s != "" {
		length := (len(s)-1)%groupLength + 1
		x = digits{groupBase}.times(x).plus(digits{group(s[:length])})
		s = s[length:]
	}
	return x.text(), api.OK
}

// isText reports whether there is a number whose text is s.
func isText(s string) bool {
	if s == "" || s[0] == '0' && s != "0" {
		return false
	}
	for i := range len(s) {
		if s[i] < '0' || s[i] > '9' {
			return false
		}
	}
	return true
}

// group returns the number of at most groupLength decimal digits.
func group(s string) uint64 {
	n := uint64(0)
	for i := range len(s) {
		n = 10*n + uint64(s[i]-'0')
	}
	return n
}
