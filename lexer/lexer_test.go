package lexer_test

import (
	"math"
	"slices"
	"strings"
	"testing"

	"rivermark/api"
	"rivermark/lexer"
)

func name(at int, s string) api.Token   { return api.Token{Kind: api.TkName, At: at, S: s} }
func number(at, n int) api.Token        { return api.Token{Kind: api.TkNumber, At: at, N: n} }
func text(at int, s string) api.Token   { return api.Token{Kind: api.TkText, At: at, S: s} }
func sign(at int, s string) api.Token   { return api.Token{Kind: api.TkSign, At: at, S: s} }
func end(at int) api.Token              { return api.Token{Kind: api.TkEnd, At: at} }
func tokens(l ...api.Token) []api.Token { return l }

// checkTokens checks the tokens of a source that has no problem.
func checkTokens(t *testing.T, src string, want ...api.Token) {
	t.Helper()
	if l, p := lexer.Tokens(src); !slices.Equal(l, want) || p != (api.Problem{}) {
		t.Errorf("P7.1: Tokens of %.300q are %v, %v", src, l, p)
	}
}

// checkProblem checks the problem of a source.
func checkProblem(t *testing.T, src string, at int, e api.Errno) {
	t.Helper()
	if l, p := lexer.Tokens(src); len(l) != 0 || p != (api.Problem{At: at, E: e}) {
		t.Errorf("P7.1: Tokens of %.300q are %v, %v", src, l, p)
	}
}

func TestExamplesOfTokens(t *testing.T) {
	checkTokens(t, "a->b1 12..3 # x", name(0, "a"), sign(1, "->"), name(3, "b1"), number(6, 12), sign(8, ".."), number(10, 3), end(15))
	checkTokens(t, `"a\"\n"`, text(0, "a\"\n"), end(7))
	checkTokens(t, "=== !==", sign(0, "=="), sign(2, "="), sign(4, "!="), sign(6, "="), end(7))
	checkProblem(t, "x 012", 2, api.ErrNumber)
	checkProblem(t, "x 3y", 2, api.ErrNumber)
	checkProblem(t, `"a`, 0, api.ErrText)
	checkProblem(t, "x $", 2, api.ErrChar)
}

func TestBlanks(t *testing.T) {
	for _, src := range []string{"", " ", "\t", "\n", "\r", " \r\n\t ", "#", "##", "#\n", "# a \"\\ $\x00\x7f\x80\xff€#", "#a\r#b\n#c", "#\xe2\n "} {
		checkTokens(t, src, end(len(src)))
	}
	checkTokens(t, "#€\xe2\x82\na#\xf0\n\r\tb", name(7, "a"), name(13, "b"), end(14))
	checkTokens(t, "#a\rb\nc", name(5, "c"), end(6))
	for c := range 256 {
		src := "a" + string([]byte{byte(c)}) + "b"
		blank := c == 32 || c == 9 || c == 10 || c == 13
		if l, _ := lexer.Tokens(src); slices.Equal(l, tokens(name(0, "a"), name(2, "b"), end(3))) != blank {
			t.Errorf("P7.1: Tokens of %q are %v", src, l)
		}
		checkTokens(t, "# "+string([]byte{byte(c)})+"\n-", sign(4, "-"), end(5))
	}
}

func TestNames(t *testing.T) {
	for _, s := range []string{"a", "z", "A", "Z", "_", "__", "_0", "a9", "aBc_1_Z0", strings.Repeat("n", 32), "_" + strings.Repeat("9", 31)} {
		checkTokens(t, s, name(0, s), end(len(s)))
		checkTokens(t, "\n"+s+" a", name(1, s), name(len(s)+2, "a"), end(len(s)+3))
	}
	for _, s := range []string{strings.Repeat("n", 33), "_" + strings.Repeat("9", 32), strings.Repeat("Q", 1000)} {
		checkProblem(t, s, 0, api.ErrLimit)
		checkProblem(t, "(\n"+s+"$", 2, api.ErrLimit)
	}
	checkProblem(t, "é", 0, api.ErrChar)
	checkProblem(t, "aé", 1, api.ErrChar)
	checkTokens(t, "a.b-c", name(0, "a"), sign(1, "."), name(2, "b"), sign(3, "-"), name(4, "c"), end(5))
}

func TestNumbers(t *testing.T) {
	for s, n := range map[string]int{"0": 0, "1": 1, "9": 9, "10": 10, "90": 90, "1234567890": 1234567890, "123456789012345": 123456789012345, "100000000000000": 1e14, "999999999999999": 999999999999999} {
		checkTokens(t, s, number(0, n), end(len(s)))
		checkTokens(t, s+"-"+s, number(0, n), sign(len(s), "-"), number(len(s)+1, n), end(2*len(s)+1))
		checkTokens(t, s+"\"\""+s, number(0, n), text(len(s), ""), number(len(s)+2, n), end(2*len(s)+2))
	}
	for _, s := range []string{"00", "01", "012", "09", "0000000000000000", "000000000000001", "1000000000000000", "1234567890123456", "9223372036854775807", "9223372036854775808", "18446744073709551617", "99999999999999999999999999", strings.Repeat("1", 1000), "0a", "0x1", "0_", "1_", "1_0", "1e3", "3y", "7Z", "12a", "123456789012345n", "0b1", "0o7"} {
		checkProblem(t, s, 0, api.ErrNumber)
		checkProblem(t, "a 1;"+s+" $", 4, api.ErrNumber)
	}
	checkTokens(t, "1.5", number(0, 1), sign(1, "."), number(2, 5), end(3))
	checkTokens(t, "+1-0", sign(0, "+"), number(1, 1), sign(2, "-"), number(3, 0), end(4))
	checkProblem(t, "1é", 1, api.ErrChar)
	checkProblem(t, "١", 0, api.ErrChar)
}

func TestTexts(t *testing.T) {
	all := ""
	for c := range 256 {
		s, quoted := string([]byte{byte(c)}), `"`+string([]byte{byte(c)})+`"`
		switch {
		case c == '"':
			checkProblem(t, quoted, 2, api.ErrText)
		case c >= 32 && c <= 126 && c != '\\':
			checkTokens(t, quoted, text(0, s), end(3))
			all += s
		default:
			checkProblem(t, quoted, 0, api.ErrText)
			checkProblem(t, "a\"bc"+s, 1, api.ErrText)
		}
		pair := `"\` + s + `"`
		switch c {
		case 'n':
			checkTokens(t, pair, text(0, "\n"), end(4))
		case '"', '\\':
			checkTokens(t, pair, text(0, s), end(4))
		default:
			checkProblem(t, pair, 0, api.ErrText)
		}
	}
	checkTokens(t, `"`+all+`"`, text(0, all), end(len(all)+2))
	checkTokens(t, `"" """\\"`, text(0, ""), text(3, ""), text(5, `\`), end(9))
	checkTokens(t, `"# a"b`, text(0, "# a"), name(5, "b"), end(6))
	checkTokens(t, `"\\n\n\\\"n"`, text(0, "\\n\n\\\"n"), end(12))
	for _, src := range []string{`"`, `"a`, `"a\"`, `"\`, `"\"`, `"a\`, `"\\\"`, "\"a\n\"", "\"a\r\"", "\"\t\"", "\"é\"", "\"\x80\"", "\"\x7f\"", "\"\x00\"", "\"\\\n\"", `"\t"`, `"\N"`, `"\'"`, `"\x"`} {
		checkProblem(t, src, 0, api.ErrText)
		checkProblem(t, "a\n "+src, 3, api.ErrText)
	}
	checkProblem(t, "'a'", 0, api.ErrChar)
	checkProblem(t, `a\n`, 1, api.ErrChar)
}

// TestLongTexts has texts with 199 to 201 bytes before what follows them.
func TestLongTexts(t *testing.T) {
	for raw, stands := range map[string]string{"t": "t", `\n`: "\n", `\\`: `\`, `\"`: `"`} {
		for count := 199; count <= 202; count++ {
			characters, content := "a "+`"`+strings.Repeat(raw, count), strings.Repeat(stands, count)
			if count > 200 {
				for _, rest := range []string{``, `"`, `\`, "\n", "\x80", "\\t", "\x00\"", `" 012`} {
					checkProblem(t, characters+rest, 2, api.ErrLimit)
				}
				continue
			}
			checkTokens(t, characters+`"`, name(0, "a"), text(2, content), end(len(characters)+1))
			for _, rest := range []string{``, `\`, "\n", "\x80", "\\t", "\x00\"", "\n\"", "\x7fttt", "\\tttt\""} {
				checkProblem(t, characters+rest, 2, api.ErrText)
			}
		}
	}
}

func TestSigns(t *testing.T) {
	long := []string{"->", ":=", "==", "!=", "<=", ">=", "&&", "||", ".."}
	short := strings.Split("( ) { } [ ] , ; : . + - * / % < > = ! & | @ ? ^ ~", " ")
	for _, s := range append(long, short...) {
		checkTokens(t, s, sign(0, s), end(len(s)))
		checkTokens(t, "a"+s+"1", name(0, "a"), sign(1, s), number(1+len(s), 1), end(len(s)+2))
		checkTokens(t, s+" "+s, sign(0, s), sign(len(s)+1, s), end(2*len(s)+1))
	}
	for a := range 256 {
		s := string([]byte{byte(a)})
		if l, p := lexer.Tokens(s); slices.Contains(short, s) != slices.Equal(l, tokens(sign(0, s), end(1))) {
			t.Errorf("P7.1: Tokens of %q are %v, %v", s, l, p)
		}
		for b := range 256 {
			pair := s + string([]byte{byte(b)})
			if l, p := lexer.Tokens(pair); slices.Contains(long, pair) != slices.Equal(l, tokens(sign(0, pair), end(2))) {
				t.Errorf("P7.1: Tokens of %q are %v, %v", pair, l, p)
			}
		}
	}
	checkTokens(t, "-->...", sign(0, "-"), sign(1, "->"), sign(3, ".."), sign(5, "."), end(6))
	checkTokens(t, "&&&|||", sign(0, "&&"), sign(2, "&"), sign(3, "||"), sign(5, "|"), end(6))
	checkTokens(t, "<=>=:==", sign(0, "<="), sign(2, ">="), sign(4, ":="), sign(6, "="), end(7))
	checkTokens(t, "- > > = . .", sign(0, "-"), sign(2, ">"), sign(4, ">"), sign(6, "="), sign(8, "."), sign(10, "."), end(11))
}

func TestBytesThatBeginNothing(t *testing.T) {
	for c := range 256 {
		printable := c > 32 && c < 127 && c != '$' && c != '\'' && c != '`' && c != '\\'
		if s := string([]byte{byte(c)}); !printable && !strings.Contains(" \t\n\r", s) {
			for _, before := range []string{"", "a", "1", "->", `"t"`, "# é\n", " "} {
				checkProblem(t, before+s, len(before), api.ErrChar)
				checkProblem(t, before+s+`" 01`, len(before), api.ErrChar)
			}
		}
	}
}

func TestFirstProblem(t *testing.T) {
	checkProblem(t, `1 01 $ "`, 2, api.ErrNumber)
	checkProblem(t, `$ 01`, 0, api.ErrChar)
	checkProblem(t, `" 01`, 0, api.ErrText)
	checkProblem(t, `a # $ 01
 "$" € 01`, 14, api.ErrChar)
	checkProblem(t, strings.Repeat("n", 33)+" 01", 0, api.ErrLimit)
}

func TestLengthOfSources(t *testing.T) {
	const most = 65536
	blanks := strings.Repeat(" ", most)
	checkTokens(t, blanks, end(most))
	checkTokens(t, blanks[1:]+"a", name(most-1, "a"), end(most))
	checkTokens(t, "#"+strings.Repeat("\x80", most-1), end(most))
	for _, src := range []string{blanks + " ", blanks + "$", "$" + blanks, "01" + blanks, "#" + blanks, strings.Repeat("a", most+1), strings.Repeat("\"", most+1), strings.Repeat(blanks, 50)} {
		checkProblem(t, src, 0, api.ErrLimit)
	}
	checkProblem(t, blanks[1:]+"$", most-1, api.ErrChar)
	checkProblem(t, blanks[1:]+"\"", most-1, api.ErrText)
	for _, s := range []string{"(", "1 ", `""`, "a\n", "->"} {
		src := strings.Repeat(s, most/len(s))
		if l, p := lexer.Tokens(src); len(l) != most/len(s)+1 || p != (api.Problem{}) {
			t.Errorf("P7.1: there are %d tokens of many %q, %v", len(l), s, p)
		}
	}
}

func TestResultsAreNew(t *testing.T) {
	const src = `a 1 "b" ->`
	first, _ := lexer.Tokens(src)
	clear(first)
	checkTokens(t, src, name(0, "a"), number(2, 1), text(4, "b"), sign(8, "->"), end(10))
}

func TestPosition(t *testing.T) {
	sources := []string{"", "a", "\n", "a\nbc", "a\nbc\n", "\n\n\n", "\r\n\r\n", "é\n€\x80\n\n", "# \"\n\\n\" \n$", strings.Repeat("x", 300) + "\n" + strings.Repeat("\ny", 300)}
	for _, src := range sources {
		line, column := 1, 1
		for at := 0; at <= len(src); at++ {
			if l, c := lexer.Position(src, at); l != line || c != column {
				t.Errorf("P7.3: Position of %d in %q is %d, %d", at, src, l, c)
			}
			column++
			if at < len(src) && src[at] == '\n' {
				line, column = line+1, 1
			}
		}
		for _, at := range []int{-1, -2, len(src) + 1, len(src) + 2, math.MinInt, math.MaxInt} {
			if l, c := lexer.Position(src, at); l != 0 || c != 0 {
				t.Errorf("P7.3: Position of %d in %q is %d, %d", at, src, l, c)
			}
		}
	}
	if l, c := lexer.Position("a\nbc", 3); l != 2 || c != 2 {
		t.Errorf("P7.3: Position of 3 is %d, %d", l, c)
	}
	long := strings.Repeat("ab\n", api.MaxSource)
	if l, c := lexer.Position(long, len(long)-1); l != api.MaxSource || c != 3 {
		t.Errorf("P7.3: Position in a source that is too long is %d, %d", l, c)
	}
}
