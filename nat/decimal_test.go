package nat_test

import (
	"math/rand"
	"strconv"
	"strings"
	"testing"

	"rivermark/api"
	"rivermark/nat"
)

func TestText(t *testing.T) {
	pairs(func(a, b string) {
		if got := nat.Text(a); got != bigOf(a).String() {
			t.Fatalf("P4.5: Text of %x is %s", a, got)
		}
	})
	for _, x := range []struct{ a, text string }{
		{"", "0"}, {"\x00", "0"}, {zeros(20, ""), "0"}, {"\x01\x00\x00", "65536"}, {"\x00\x0a", "10"}, {"\x64", "100"}, {"\xff\xff\xff\xff\xff\xff\xff\xff", "18446744073709551615"},
	} {
		if got := nat.Text(x.a); got != x.text {
			t.Errorf("P4.5: Text of %x is %s", x.a, got)
		}
	}
}

// TestTextOfPowersOfTen has digits that are 0 in the middle and at the end, and ends of groups of digits.
func TestTextOfPowersOfTen(t *testing.T) {
	power := "\x01"
	for n := range 200 {
		want := "1" + strings.Repeat("0", n)
		if got := nat.Text(power); got != want {
			t.Fatalf("P4.5: Text of 10^%d is %s", n, got)
		}
		if got := nat.Text(nat.Add(power, "\x07")); n > 0 && got != want[:n]+"7" {
			t.Fatalf("P4.5: Text of 10^%d + 7 is %s", n, got)
		}
		less, _ := nat.Sub(power, "\x01")
		if got := nat.Text(less); n > 0 && got != strings.Repeat("9", n) {
			t.Fatalf("P4.5: Text of 10^%d - 1 is %s", n, got)
		}
		power = nat.Mul(power, "\x0a")
	}
}

func TestParse(t *testing.T) {
	pairs(func(a, b string) {
		s := bigOf(a).String()
		if n, e := nat.Parse(s); n != nat.Clean(a) || e != api.OK {
			t.Fatalf("P4.5: Parse of %s is %x, %v", s, n, e)
		}
	})
	for n := range 3000 {
		want, _ := nat.Int(n)
		if got, e := nat.Parse(strconv.Itoa(n)); got != want || e != api.OK {
			t.Fatalf("P4.5: Parse of %d is %x, %v", n, got, e)
		}
	}
	long := strings.Repeat("9081726354", 300)
	if n, e := nat.Parse(long); e != api.OK || nat.Text(n) != long {
		t.Error("P4.5: 3000 digits")
	}
}

func TestParseRefuses(t *testing.T) {
	long := strings.Repeat("1234567890", 5)
	for _, s := range []string{
		"", "00", "01", "007", "000000000000000000000000", "0" + long, "-1", "-0", "+1", " 1", "1 ", "1\n", "1_000", "1,0", "1.0", "1e3", "0x10", "1x", "x1", "x", "/", ":", "\x00", "1\x00", "\x001", "١", "½",
		long + "x", "x" + long, long[:25] + "/" + long[25:], long[:25] + ":" + long[25:], long[:31] + "-1",
	} {
		if n, e := nat.Parse(s); n != "" || e != api.ErrNumber {
			t.Errorf("P4.5: Parse of %q is %x, %v", s, n, e)
		}
	}
}

// TestParseIsTheInverseOfText tries all short strings over some bytes: those that are the text of a number are read, and no others.
func TestParseIsTheInverseOfText(t *testing.T) {
	var try func(s string)
	try = func(s string) {
		n, e := nat.Parse(s)
		v, err := strconv.ParseUint(s, 10, 64)
		if isText := err == nil && strconv.FormatUint(v, 10) == s; isText != (e == api.OK) || isText && nat.Text(n) != s || !isText && (n != "" || e != api.ErrNumber) {
			t.Fatalf("P4.5: Parse of %q is %x, %v", s, n, e)
		}
		if len(s) < 4 {
			for _, c := range "0179-+ a/:" {
				try(s + string(c))
			}
		}
	}
	try("")
	rng := rand.New(rand.NewSource(5))
	for range 2000 {
		n := nat.Clean(pattern(rng, rng.Intn(100)))
		if m, e := nat.Parse(nat.Text(n)); m != n || e != api.OK {
			t.Fatalf("P4.5: Parse of the text of %x is %x, %v", n, m, e)
		}
	}
}
