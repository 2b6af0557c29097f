package lexer_test

import (
	"math/rand"
	"regexp"
	"slices"
	"strconv"
	"strings"
	"testing"

	"rivermark/api"
	"rivermark/lexer"
)

// What a source consists of, as regular expressions.
var (
	blanksFirst = regexp.MustCompile(`^(?:[ \t\n\r]|#[^\n]*)*`)
	onlyBlanks  = regexp.MustCompile(`^(?:[ \t\n\r]|#[^\n]*\n)*(?:#[^\n]*)?$`)
	nameFirst   = regexp.MustCompile(`^[A-Za-z_][A-Za-z0-9_]*`)
	digitsFirst = regexp.MustCompile(`^[0-9]+([A-Za-z_]?)`)
	textFirst   = regexp.MustCompile(`^"((?:[ !#-\[\]-~]|\\["\\n])*)("?)`)
	pairs       = regexp.MustCompile(`\\.`)
	goodNumber  = regexp.MustCompile(`^(?:0|[1-9][0-9]{0,14})$`)
	signFirst   = regexp.MustCompile(`^(?:->|:=|==|!=|<=|>=|&&|\|\||\.\.|[(){}\[\],;:.+\-*/%<>=!&|@?^~])`)
)

// model returns the tokens of a source, or its problem, as the regular expressions find them.
func model(src string) ([]api.Token, api.Problem) {
	if len(src) > api.MaxSource {
		return nil, api.Problem{E: api.ErrLimit}
	}
	var l []api.Token
	for at := 0; ; {
		at += len(blanksFirst.FindString(src[at:]))
		if at == len(src) {
			return append(l, api.Token{Kind: api.TkEnd, At: at}), api.Problem{}
		}
		t, length, e := firstToken(src[at:])
		if e != api.OK {
			return nil, api.Problem{At: at, E: e}
		}
		t.At = at
		l = append(l, t)
		at += length
	}
}

// firstToken returns the token that a string begins with, and its length.
func firstToken(s string) (api.Token, int, api.Errno) {
	if name := nameFirst.FindString(s); name != "" {
		if len(name) > 32 {
			return api.Token{}, 0, api.ErrLimit
		}
		return api.Token{Kind: api.TkName, S: name}, len(name), api.OK
	}
	if digits := digitsFirst.FindString(s); digits != "" {
		if !goodNumber.MatchString(digits) {
			return api.Token{}, 0, api.ErrNumber
		}
		n, _ := strconv.Atoi(digits)
		return api.Token{Kind: api.TkNumber, N: n}, len(digits), api.OK
	}
	if text := textFirst.FindStringSubmatch(s); text != nil {
		content := pairs.ReplaceAllStringFunc(text[1], func(pair string) string {
			return strings.Replace(pair[1:], "n", "\n", 1)
		})
		switch {
		case len(content) > 200:
			return api.Token{}, 0, api.ErrLimit
		case text[2] == "":
			return api.Token{}, 0, api.ErrText
		}
		return api.Token{Kind: api.TkText, S: content}, len(text[0]), api.OK
	}
	if sign := signFirst.FindString(s); sign != "" {
		return api.Token{Kind: api.TkSign, S: sign}, len(sign), api.OK
	}
	return api.Token{}, 0, api.ErrChar
}

// checkSource compares Tokens with the model, and checks what P7.4, P7.6 and P7.7 say of a source.
func checkSource(t *testing.T, src string) {
	t.Helper()
	want, wrong := model(src)
	l, p := lexer.Tokens(src)
	if !slices.Equal(l, want) || p != wrong {
		t.Fatalf("P7.1: Tokens of %q are %v, %v, not %v, %v", src, l, p, want, wrong)
	}
	if p != (api.Problem{}) {
		if before, q := lexer.Tokens(src[:p.At]); p.At > 0 && (q != (api.Problem{}) || len(before) == 0) {
			t.Fatalf("P7.6: Tokens of %q are %v, %v, but those of %q are %v, %v", src, l, p, src[:p.At], before, q)
		}
		return
	}
	checkBlanks(t, src, l)
	checkTextOfTokens(t, l)
}

// checkBlanks checks that a source without its tokens, each of which is printed as it is there, is blank.
func checkBlanks(t *testing.T, src string, l []api.Token) {
	t.Helper()
	end := 0
	for _, token := range l {
		if token.At < end || !onlyBlanks.MatchString(src[end:token.At]) {
			t.Fatalf("P7.7: %q is not blank before the token %v", src, token)
		}
		s := lexer.Text([]api.Token{token})
		if !strings.HasPrefix(src[token.At:], s) {
			t.Fatalf("P7.2: %q has the token %v, whose Text is %q", src, token, s)
		}
		end = token.At + len(s)
	}
	if end != len(src) {
		t.Fatalf("P7.1: the tokens of %q end at %d", src, end)
	}
}

// checkTextOfTokens checks that the Text of tokens has the same tokens.
func checkTextOfTokens(t *testing.T, l []api.Token) {
	t.Helper()
	s := lexer.Text(l)
	again, p := lexer.Tokens(s)
	if len(s) <= api.MaxSource && (!slices.EqualFunc(again, l, same) || p != (api.Problem{})) {
		t.Fatalf("P7.4: the tokens %v have the text %q, whose tokens are %v, %v", l, s, again, p)
	}
}

// same reports whether tokens are equal, but for At.
func same(a, b api.Token) bool {
	a.At = b.At
	return a == b
}

// TestShortSources has all sources of at most four of some bytes, of two of any bytes, and of three bytes of signs.
func TestShortSources(t *testing.T) {
	allSources("aZ_09\"\\n#\n ->=.$\x80", 4, func(src string) { checkSource(t, src) })
	allSources("(){}[],;:.+-*/%<>=!&|@?^~", 3, func(src string) { checkSource(t, src) })
	for a := range 256 {
		for b := range 256 {
			checkSource(t, string([]byte{byte(a), byte(b)}))
		}
	}
}

// allSources visits all sources of at most some bytes of an alphabet.
func allSources(alphabet string, length int, visit func(src string)) {
	var extend func(src string)
	extend = func(src string) {
		visit(src)
		for i := 0; i < len(alphabet) && len(src) < length; i++ {
			extend(src + alphabet[i:i+1])
		}
	}
	extend("")
}

// TestAnySources has long sources, most of them with a problem somewhere.
func TestAnySources(t *testing.T) {
	rng := rand.New(rand.NewSource(71))
	for range 20000 {
		src, _ := join(rng, somePieces(rng, rng.Intn(12)))
		b := []byte(src)
		for range rng.Intn(3) {
			i := rng.Intn(len(b) + 1)
			switch rng.Intn(3) {
			case 0:
				b = slices.Insert(b, i, byte(rng.Intn(256)))
			case 1:
				b = b[:i]
			default:
				b = slices.Delete(b, i, min(i+1+rng.Intn(4), len(b)))
			}
		}
		checkSource(t, string(b))
	}
	for range 20000 {
		b := make([]byte, rng.Intn(20))
		for i := range b {
			b[i] = byte(rng.Intn(256))
		}
		checkSource(t, string(b))
	}
}
