package lexer_test

import (
	"math"
	"math/rand"
	"slices"
	"strconv"
	"strings"
	"testing"

	"rivermark/api"
	"rivermark/lexer"
)

func TestText(t *testing.T) {
	for _, x := range []struct {
		tokens []api.Token
		want   string
	}{
		{nil, ""},
		{tokens(end(0)), ""},
		{tokens(name(5, "a")), "a"},
		{tokens(name(0, "a"), sign(7, "->"), number(-1, 12), text(0, "b"), end(3)), `a -> 12 "b"`},
		{tokens(number(0, 0), number(0, -1), number(0, math.MinInt), number(0, math.MaxInt)), "0 -1 -9223372036854775808 9223372036854775807"},
		{tokens(end(0), name(0, "a"), end(0), end(0), name(0, "b"), end(0)), "a b"},
		{tokens(text(0, "")), `""`},
		{tokens(text(0, "a\"\\\nb\\n\r\t\x00\x80é'#")), "\"a\\\"\\\\\\nb\\\\n\r\t\x00\x80é'#\""},
		{tokens(name(0, ""), sign(0, ""), name(0, "a"), sign(0, "")), "  a "},
		{tokens(name(0, "1\" \\\n"), sign(0, "no sign\n\x80")), "1\" \\\n no sign\n\x80"},
		{tokens(sign(0, "="), sign(0, "="), name(0, "a"), name(0, "b"), number(0, 1), number(0, 2)), "= = a b 1 2"},
	} {
		if s := lexer.Text(x.tokens); s != x.want {
			t.Errorf("P7.2: Text of %v is %q", x.tokens, s)
		}
	}
	for _, kind := range []int{0, -1, 6, 7, api.TkEnd, math.MinInt, math.MaxInt} {
		other := api.Token{Kind: kind, At: 1, S: "x", N: 3}
		if s := lexer.Text(tokens(other)); s != "" {
			t.Errorf("P7.2: Text of %v is %q", other, s)
		}
		if s := lexer.Text(tokens(other, name(0, "a"), other, other, number(0, 4), other)); s != "a 4" {
			t.Errorf("P7.2: Text with %v is %q", other, s)
		}
	}
}

// TestFieldsWithoutMeaning has tokens with a number beside a string, or the other way round.
func TestFieldsWithoutMeaning(t *testing.T) {
	for kind, want := range map[int]string{api.TkName: "7", api.TkNumber: "-5", api.TkText: `"7"`, api.TkSign: "7"} {
		if s := lexer.Text(tokens(api.Token{Kind: kind, At: 3, S: "7", N: -5})); s != want {
			t.Errorf("P7.2: Text of the kind %d is %q", kind, s)
		}
	}
}

func TestTextOfAnyTokens(t *testing.T) {
	rng := rand.New(rand.NewSource(72))
	for range 5000 {
		var l []api.Token
		var parts []string
		for range rng.Intn(8) {
			token := api.Token{Kind: rng.Intn(8) - 1, At: rng.Int(), S: anyBytes(rng), N: int(rng.Uint64() >> rng.Intn(64))}
			l = append(l, token)
			switch token.Kind {
			case 1, 4:
				parts = append(parts, token.S)
			case 2:
				parts = append(parts, strconv.Itoa(token.N))
			case 3:
				s := strings.ReplaceAll(strings.ReplaceAll(token.S, `\`, `\\`), `"`, `\"`)
				parts = append(parts, `"`+strings.ReplaceAll(s, "\n", `\n`)+`"`)
			}
		}
		given := slices.Clone(l)
		if s := lexer.Text(l); s != strings.Join(parts, " ") || !slices.Equal(l, given) {
			t.Fatalf("P7.2: Text of %v is %q", given, s)
		}
	}
}

// anyBytes returns a string of any bytes, more of them such as need a pair.
func anyBytes(rng *rand.Rand) string {
	b := make([]byte, rng.Intn(6))
	for i := range b {
		b[i] = byte(rng.Intn(256))
		if rng.Intn(2) == 0 {
			b[i] = "\"\\\nn"[rng.Intn(4)]
		}
	}
	return string(b)
}
