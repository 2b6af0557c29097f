package lexer

import (
	"strconv"
	"strings"

	"rivermark/api"
)

// reader reads a source from an offset on.
type reader struct {
	src    string
	at     int
	tokens []api.Token
}

// next reads the blank or the token that begins at the offset, which is not the end of the source.
func (r *reader) next() api.Errno {
	// Each of them returns ErrNone if what it reads does not begin here. No byte begins what two of them read.
	for _, read := range [...]func(*reader) api.Errno{(*reader).blank, (*reader).name, (*reader).number, (*reader).text, (*reader).sign} {
		if e := read(r); e != api.ErrNone {
			return e
		}
	}
	return api.ErrChar
}

// add appends a token that has some bytes.
func (r *reader) add(t api.Token, length int) {
	t.At = r.at
	r.tokens = append(r.tokens, t)
	r.at += length
}

// blank reads a blank byte or a comment.
func (r *reader) blank() api.Errno {
	switch r.src[r.at] {
	case ' ', '\t', '\n', '\r':
		r.at++
		return api.OK
	case '#':
		comment, _, _ := strings.Cut(r.src[r.at:], "\n")
		r.at += len(comment)
		return api.OK
	}
	return api.ErrNone
}

// name reads a name.
func (r *reader) name() api.Errno {
	if !is(r.src[r.at], inWord) || is(r.src[r.at], digit) {
		return api.ErrNone
	}
	word := r.word()
	if len(word) > api.MaxName {
		return api.ErrLimit
	}
	r.add(api.Token{Kind: api.TkName, S: word}, len(word))
	return api.OK
}

// number reads a number.
func (r *reader) number() api.Errno {
	if !is(r.src[r.at], digit) {
		return api.ErrNone
	}
	word := r.word()
	n, _ := strconv.Atoi(word)
	// A word with a letter, or that begins with a 0 too many, is not what its number is printed as.
	if n > api.MaxInt || strconv.Itoa(n) != word {
		return api.ErrNumber
	}
	r.add(api.Token{Kind: api.TkNumber, N: n}, len(word))
	return api.OK
}

// word returns the letters, digits and _ from the offset on.
func (r *reader) word() string {
	rest := r.src[r.at:]
	for i := range len(rest) {
		if !is(rest[i], inWord) {
			return rest[:i]
		}
	}
	return rest
}

// text reads a text.
func (r *reader) text() api.Errno {
	rest := r.src[r.at:]
	if rest[0] != '"' {
		return api.ErrNone
	}
	var content []byte
	i := 1
	for i < len(rest) && rest[i] != '"' {
		c, length := character(rest[i:])
		if length == 0 {
			return api.ErrText
		}
		if len(content) == api.MaxText {
			return api.ErrLimit
		}
		content = append(content, c)
		i += length
	}
	if i == len(rest) {
		return api.ErrText
	}
	r.add(api.Token{Kind: api.TkText, S: string(content)}, i+1)
	return api.OK
}

// sign reads a sign.
func (r *reader) sign() api.Errno {
	rest := r.src[r.at:]
	length := signLength(rest)
	if length == 0 {
		return api.ErrNone
	}
	r.add(api.Token{Kind: api.TkSign, S: rest[:length]}, length)
	return api.OK
}

// signLength returns the length of the longest sign that a string begins with, 0 if it begins with none.
func signLength(s string) int {
	if len(s) > 1 {
		switch s[:2] {
		case "->", ":=", "==", "!=", "<=", ">=", "&&", "||", "..":
			return 2
		}
	}
	if strings.IndexByte("(){}[],;:.+-*/%<>=!&|@?^~", s[0]) >= 0 {
		return 1
	}
	return 0
}
