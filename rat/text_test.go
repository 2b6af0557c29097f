package rat_test

import (
	"math/big"
	"math/rand"
	"strings"
	"testing"

	"rivermark/api"
	"rivermark/rat"
)

func TestText(t *testing.T) {
	pairs(func(a, _ api.Rat) {
		if got := rat.Text(a); got != bigOf(a).RatString() {
			t.Fatalf("P5.6: Text of %#v is %s", a, got)
		}
	})
	for _, a := range invalid {
		if got := rat.Text(a); got != "0" {
			t.Errorf("P5.6: Text of %#v is %s", a, got)
		}
	}
	if got := rat.Text(quotient(300, -7)); got != "-300/7" {
		t.Errorf("P5.6: Text of 300/-7 is %s", got)
	}
}

func TestParse(t *testing.T) {
	for _, s := range []string{"0", "1", "-1", "7", "10", "-300/7", "1/2", "-1/2", "100/101", "18446744073709551616/3", "-1/18446744073709551616", strings.Repeat("9", 200) + "/" + strings.Repeat("8", 199), "-" + strings.Repeat("9", 198) + "/" + strings.Repeat("8", 199)} {
		checkParse(t, s)
	}
	for _, s := range []string{
		"", "-", "/", "-/", "--1", "1/", "/2", "-/2", "1//2", "1/2/", "1/2/3", "1/-2", "1/+2", "1-/2", "1/2-",
		"2/4", "3/1", "-3/1", "0/1", "0/5", "-0", "-0/1", "1/0", "0/0", "-1/0", "4/2", "6/4", "5/5",
		"00", "01", "-01", "01/2", "1/02", "1/00", "+1", " 1", "1 ", "1 /2", "1/ 2", "- 1", "1.5", "1e3", "0x1", "1_0", "a", "a/b", "1/b", "\x00", "1\x00", "½", "١", "−1", "1\n", "1:2", "1\\2",
	} {
		if a, e := rat.Parse(s); a != (api.Rat{}) || e != api.ErrNumber {
			t.Errorf("P5.6: Parse of %q is %#v, %#v", s, a, e)
		}
	}
}

// checkParse compares Parse with math/big, whose texts of numbers are the same.
func checkParse(t *testing.T, s string) {
	t.Helper()
	x, exists := new(big.Rat).SetString(s)
	a, e := rat.Parse(s)
	switch {
	case len(s) > api.MaxDigits:
		if a != (api.Rat{}) || e != api.ErrLimit {
			t.Fatalf("P5.6: Parse of %q is %#v, %#v", s, a, e)
		}
	case exists && x.RatString() == s:
		if a != numberOf(x) || e != api.OK {
			t.Fatalf("P5.6: Parse of %q is %#v, %#v", s, a, e)
		}
	case a != (api.Rat{}) || e != api.ErrNumber:
		t.Fatalf("P5.6: Parse of %q is %#v, %#v", s, a, e)
	}
}

func TestParseOfLongTexts(t *testing.T) {
	nines := strings.Repeat("9", api.MaxDigits)
	for _, s := range []string{nines, nines + "9", "-" + nines[1:], "-" + nines, nines[:300] + "/" + strings.Repeat("2", 99), nines[:300] + "/" + strings.Repeat("2", 100), strings.Repeat("x", api.MaxDigits), strings.Repeat("x", api.MaxDigits+1), strings.Repeat("0", api.MaxDigits), strings.Repeat("0", api.MaxDigits+1), strings.Repeat("1", 10*api.MaxDigits)} {
		checkParse(t, s)
	}
}

// TestAllShortTexts covers P5.9 for short texts: of all strings over some bytes, those that are the text of a number give it, and the others none.
func TestAllShortTexts(t *testing.T) {
	var try func(s string)
	try = func(s string) {
		if !strings.ContainsAny(s, " +") {
			checkParse(t, s)
		} else if a, e := rat.Parse(s); a != (api.Rat{}) || e != api.ErrNumber {
			t.Fatalf("P5.9: Parse of %q is %#v, %#v", s, a, e)
		}
		if a, e := rat.Parse(s); e == api.OK && rat.Text(a) != s {
			t.Fatalf("P5.9: Text of Parse of %q is %s", s, rat.Text(a))
		}
		if len(s) < 5 {
			for _, c := range "0126-/+ " {
				try(s + string(c))
			}
		}
	}
	try("")
}

// TestTextsAreUnique covers P5.9 from the other side.
func TestTextsAreUnique(t *testing.T) {
	texts := map[string]api.Rat{}
	rng := rand.New(rand.NewSource(59))
	for range 20000 {
		a := number(rng)
		if !rat.Valid(a) {
			continue
		}
		s := rat.Text(a)
		if got, e := rat.Parse(s); got != a || e != api.OK {
			t.Fatalf("P5.9: Parse of %s, the text of %#v, is %#v, %#v", s, a, got, e)
		}
		if other, ok := texts[s]; ok && other != a {
			t.Fatalf("P5.9: %#v and %#v have the text %s", a, other, s)
		}
		texts[s] = a
	}
}
