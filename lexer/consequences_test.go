package lexer_test

import (
	"math/rand"
	"slices"
	"strconv"
	"strings"
	"testing"

	"rivermark/api"
	"rivermark/lexer"
)

// piece is a token, and its bytes in a source.
type piece struct {
	bytes string
	token api.Token
}

// somePieces returns any tokens.
func somePieces(rng *rand.Rand, count int) []piece {
	var l []piece
	for range count {
		l = append(l, anyPiece(rng))
	}
	return l
}

// anyPiece returns a token of any kind.
func anyPiece(rng *rand.Rand) piece {
	switch rng.Intn(4) {
	case 0:
		const letters, all = "abyzABYZ_", "abyzABYZ_0189"
		s := pick(rng, letters)
		for range rng.Intn(6) {
			s += pick(rng, all)
		}
		if rng.Intn(20) == 0 {
			s += strings.Repeat("_", 32-len(s))
		}
		return piece{s, name(0, s)}
	case 1:
		n := rng.Intn(1e15)
		if rng.Intn(2) == 0 {
			n = rng.Intn(11)
		}
		return piece{strconv.Itoa(n), number(0, n)}
	case 2:
		return anyText(rng)
	}
	signs := strings.Fields("-> := == != <= >= && || .. ( ) { } [ ] , ; : . + - * / % < > = ! & | @ ? ^ ~")
	s := signs[rng.Intn(len(signs))]
	return piece{s, sign(0, s)}
}

// pick returns one of the bytes of a string.
func pick(rng *rand.Rand, s string) string {
	i := rng.Intn(len(s))
	return s[i : i+1]
}

// anyText returns a text, sometimes one that is as long as possible.
func anyText(rng *rand.Rand) piece {
	length := rng.Intn(5)
	if rng.Intn(20) == 0 {
		length = 200
	}
	var bytes, content strings.Builder
	for range length {
		c := byte(32 + rng.Intn(95))
		if rng.Intn(4) == 0 {
			c = "\"\\\n"[rng.Intn(3)]
		}
		content.WriteByte(c)
		switch c {
		case '\n':
			bytes.WriteString(`\n`)
		case '"', '\\':
			bytes.WriteByte('\\')
			bytes.WriteByte(c)
		default:
			bytes.WriteByte(c)
		}
	}
	return piece{`"` + bytes.String() + `"`, text(0, content.String())}
}

// anyBlanks returns at least one blank; a comment among them has its line feed.
func anyBlanks(rng *rand.Rand) string {
	blanks := []string{" ", "\t", "\n", "\r", "\r\n", "#\n", "# a \"b\n", "#€ $ 01 \xe2\x82#\n", "#\x00\x80\r\n"}
	s := ""
	for range 1 + rng.Intn(3) {
		s += blanks[rng.Intn(len(blanks))]
	}
	return s
}

// join returns a source of tokens, with blanks where they are needed and at other places, and its tokens.
func join(rng *rand.Rand, l []piece) (string, []api.Token) {
	src := ""
	var want []api.Token
	for i, p := range l {
		if i > 0 && !separate(l[i-1], p) || rng.Intn(3) == 0 {
			src += anyBlanks(rng)
		}
		p.token.At = len(src)
		want = append(want, p.token)
		src += p.bytes
	}
	if rng.Intn(3) == 0 {
		src += anyBlanks(rng)
	}
	if rng.Intn(5) == 0 {
		src += "# the end"
	}
	return src, append(want, end(len(src)))
}

// separate reports whether two tokens need no blank between them: one of them is a text, or just one of them a sign.
func separate(a, b piece) bool {
	return a.token.Kind == api.TkText || b.token.Kind == api.TkText || (a.token.Kind == api.TkSign) != (b.token.Kind == api.TkSign)
}

func TestBlanksBetweenTokens(t *testing.T) {
	rng := rand.New(rand.NewSource(75))
	for range 3000 {
		pieces := somePieces(rng, rng.Intn(10))
		for range 3 {
			src, want := join(rng, pieces)
			checkJoined(t, src, want)
		}
	}
}

// checkJoined checks the tokens of a source that was put together.
func checkJoined(t *testing.T, src string, want []api.Token) {
	t.Helper()
	if l, p := lexer.Tokens(src); !slices.Equal(l, want) || p != (api.Problem{}) {
		t.Fatalf("P7.5: Tokens of %q are %v, %v, not %v", src, l, p, want)
	}
}

// TestBlanksInSources puts blanks in before every token of short sources, and of their ends.
func TestBlanksInSources(t *testing.T) {
	rng := rand.New(rand.NewSource(76))
	allSources("a1\"=.# \n", 5, func(src string) {
		l, p := lexer.Tokens(src)
		if p != (api.Problem{}) {
			return
		}
		longer, from := "", 0
		want := slices.Clone(l)
		for i, token := range l {
			longer += src[from:token.At] + anyBlanks(rng)
			from, want[i].At = token.At, len(longer)
		}
		checkJoined(t, longer, want)
	})
}

func TestTwoSources(t *testing.T) {
	rng := rand.New(rand.NewSource(77))
	for range 5000 {
		first, want := join(rng, somePieces(rng, rng.Intn(6)))
		second, rest := join(rng, somePieces(rng, rng.Intn(6)))
		want = want[:len(want)-1]
		for _, token := range rest {
			token.At += len(first) + 1
			want = append(want, token)
		}
		checkJoined(t, first+"\n"+second, want)
	}
}

func TestTextsOfTokens(t *testing.T) {
	rng := rand.New(rand.NewSource(74))
	for range 3000 {
		src, want := join(rng, somePieces(rng, rng.Intn(10)))
		checkSource(t, src)
		checkTextOfTokens(t, want)
	}
	// The text of the most tokens that a source can have has spaces between them, and is too long.
	l, _ := lexer.Tokens(strings.Repeat("(", api.MaxSource))
	s := lexer.Text(l)
	if len(s) != 2*api.MaxSource-1 {
		t.Errorf("P7.2: the text of many tokens has %d bytes", len(s))
	}
	checkProblem(t, s, 0, api.ErrLimit)
	checkTextOfTokens(t, l)
	half, _ := lexer.Tokens(strings.Repeat("(", api.MaxSource/2))
	checkTextOfTokens(t, half)
}
