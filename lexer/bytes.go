package lexer

// Classes of bytes.
const (
	digit  = 1 << iota
	inWord // bytes of names and numbers: letters, digits and _
	plain  // characters of texts that stand for themselves
)

// is reports whether a byte belongs to a class. Each class contains the one before it.
func is(c byte, class int) bool {
	classes := 0
	switch {
	case c >= '0' && c <= '9':
		classes |= digit
		fallthrough
	case c >= 'a' && c <= 'z', c >= 'A' && c <= 'Z', c == '_':
		classes |= inWord
		fallthrough
	case c >= ' ' && c <= '~' && c != '"' && c != '\\':
		classes |= plain
	}
	return classes&class != 0
}

// character returns the byte that the character at the beginning of a string stands for, and the length of this character, 0 if there is none.
func character(s string) (stands byte, length int) {
	if is(s[0], plain) {
		return s[0], 1
	}
	if s[0] != '\\' || len(s) == 1 {
		return 0, 0
	}
	switch s[1] {
	case '"', '\\':
		return s[1], 2
	case 'n':
		return '\n', 2
	}
	return 0, 0
}

// quoted returns a text between quotation marks, with pairs for the bytes that need one.
func quoted(s string) string {
	b := []byte{'"'}
	for i := range len(s) {
		switch s[i] {
		case '"', '\\':
			b = append(b, '\\', s[i])
		case '\n':
			b = append(b, '\\', 'n')
		default:
			b = append(b, s[i])
		}
	}
	return string(append(b, '"'))
}
