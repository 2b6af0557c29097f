package parse

import (
	"rivermark/api"
	"rivermark/lexer"
)

// all reports whether something holds for all elements of a list.
func all[T any](l []T, holds func(T) bool) bool {
	for _, x := range l {
		if !holds(x) {
			return false
		}
	}
	return true
}

// rightForm reports whether a form can be written, as far as its parts are concerned.
func rightForm(f api.Form) bool {
	return isToken(name(f.Word)) && all(f.Args, rightArg) && all(f.Body, rightForm)
}

// rightArg reports whether an argument can be written, as far as its parts are concerned.
func rightArg(a api.Arg) bool {
	switch a.Kind {
	case api.ArName:
		return isToken(name(a.S))
	case api.ArNumber:
		return a.N >= -api.MaxInt && a.N <= api.MaxInt
	case api.ArText:
		return isToken(text(a.S))
	case api.ArArrow:
		return true
	case api.ArExpr:
		return rightExpr(a.E)
	}
	return false
}

// rightExpr reports whether an expression can be written, as far as its parts are concerned.
func rightExpr(e api.Expr) bool {
	switch {
	case e.Op == api.ExNumber:
		return e.N >= 0 && e.N <= api.MaxInt
	case e.Op == api.ExText:
		return isToken(text(e.S))
	case e.Op == api.ExName:
		return isToken(name(e.S))
	case e.Op == api.ExCall:
		return isToken(name(e.S)) && all(e.Kids, rightExpr)
	case e.Op >= api.ExNot && e.Op <= api.ExIf:
		return len(e.Kids) == operations[e.Op].kids && all(e.Kids, rightExpr)
	}
	return false
}

// isToken reports whether a source can have a token: then the text of this token has it, and nothing else.
func isToken(t api.Token) bool {
	l, _ := lexer.Tokens(lexer.Text([]api.Token{t}))
	return len(l) == 2 && l[0] == t
}
