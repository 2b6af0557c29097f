package parse

import (
	"rivermark/api"
	"rivermark/lexer"
)

// parser reads tokens, which end with the end of the source, and counts the forms that it has begun.
type parser struct {
	tokens []api.Token
	at     int
	forms  int
}

// read returns what a method of a parser makes of all of a source. The parser gives up by a panic with the problem.
func read[T any](src string, method func(*parser) T) (result T, problem api.Problem) {
	tokens, problem := lexer.Tokens(src)
	if problem.E != api.OK {
		return result, problem
	}
	p := &parser{tokens: tokens}
	defer func() {
		if r := recover(); r != nil {
			problem = r.(api.Problem)
		}
	}()
	whole := method(p)
	p.expect(p.next().Kind == api.TkEnd)
	return whole, api.Problem{}
}

// expect gives up at the next token, unless the grammar can go on with it.
func (p *parser) expect(possible bool) {
	if !possible {
		panic(api.Problem{At: p.next().At, E: api.ErrSyntax})
	}
}

// allow gives up at the next token, with which the grammar can go on, unless it is within a limit.
func (p *parser) allow(within bool) {
	if !within {
		panic(api.Problem{At: p.next().At, E: api.ErrLimit})
	}
}

// next returns the next token, and leaves it where it is.
func (p *parser) next() api.Token { return p.tokens[p.at] }

// take returns the next token, which is not the end, and goes on to the one after it.
func (p *parser) take() api.Token {
	t := p.next()
	p.at++
	return t
}

// is reports whether the next token is a sign.
func (p *parser) is(sign string) bool {
	t := p.next()
	return t.Kind == api.TkSign && t.S == sign
}

// skip goes on to the token after a sign, if this comes next, and reports whether it does.
func (p *parser) skip(sign string) bool {
	if !p.is(sign) {
		return false
	}
	p.at++
	return true
}

// need goes on to the token after a sign, which has to come next.
func (p *parser) need(sign string) {
	p.expect(p.skip(sign))
}

// source reads forms that are in no other one.
func (p *parser) source() []api.Form { return p.list(1) }

// list reads forms of a depth.
func (p *parser) list(depth int) []api.Form {
	var l []api.Form
	for p.next().Kind == api.TkName {
		p.allow(depth <= api.MaxNest && p.forms < api.MaxForms)
		p.forms++
		l = append(l, p.form(depth))
	}
	return l
}

// form reads a form of a depth, which begins with the next token.
func (p *parser) form(depth int) api.Form {
	word := p.take()
	f := api.Form{Word: word.S, At: word.At}
	for !p.skip(";") {
		if p.skip("{") {
			f.Body = p.list(depth + 1)
			p.need("}")
			return f
		}
		// What an argument begins with, an operand can begin with, but for the arrow.
		p.expect(p.begins(levelNeg) || p.is("->"))
		p.allow(len(f.Args) < api.MaxArgs)
		f.Args = append(f.Args, p.arg())
	}
	return f
}

// arg reads an argument, which begins with the next token.
func (p *parser) arg() api.Arg {
	t := p.take()
	switch {
	case t.Kind == api.TkName:
		return api.Arg{Kind: api.ArName, S: t.S, At: t.At}
	case t.Kind == api.TkNumber:
		return api.Arg{Kind: api.ArNumber, N: t.N, At: t.At}
	case t.Kind == api.TkText:
		return api.Arg{Kind: api.ArText, S: t.S, At: t.At}
	case t.S == "->":
		return api.Arg{Kind: api.ArArrow, At: t.At}
	case t.S == "-":
		p.expect(p.next().Kind == api.TkNumber)
		return api.Arg{Kind: api.ArNumber, N: -p.take().N, At: t.At}
	}
	e := p.nested(levelExpr, 1)
	p.need(")")
	return api.Arg{Kind: api.ArExpr, E: e, At: t.At}
}
