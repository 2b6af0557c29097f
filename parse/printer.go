package parse

import "rivermark/api"

// printer collects the tokens of what is right.
type printer struct{ tokens []api.Token }

// put appends tokens.
func (p *printer) put(l ...api.Token) {
	// The text of more tokens than a source has bytes is too long, whatever follows.
	if len(p.tokens) <= api.MaxSource {
		p.tokens = append(p.tokens, l...)
	}
}

func name(s string) api.Token { return api.Token{Kind: api.TkName, S: s} }
func number(n int) api.Token  { return api.Token{Kind: api.TkNumber, N: n} }
func text(s string) api.Token { return api.Token{Kind: api.TkText, S: s} }
func sign(s string) api.Token { return api.Token{Kind: api.TkSign, S: s} }

// forms prints forms.
func (p *printer) forms(l []api.Form) {
	for _, f := range l {
		p.put(name(f.Word))
		for _, a := range f.Args {
			p.arg(a)
		}
		if len(f.Body) == 0 {
			p.put(sign(";"))
			continue
		}
		p.put(sign("{"))
		p.forms(f.Body)
		p.put(sign("}"))
	}
}

// arg prints an argument.
func (p *printer) arg(a api.Arg) {
	switch {
	case a.Kind == api.ArName:
		p.put(name(a.S))
	case a.Kind == api.ArNumber && a.N < 0:
		p.put(sign("-"), number(-a.N))
	case a.Kind == api.ArNumber:
		p.put(number(a.N))
	case a.Kind == api.ArText:
		p.put(text(a.S))
	case a.Kind == api.ArArrow:
		p.put(sign("->"))
	case a.Kind == api.ArExpr:
		p.enclosed(a.E)
	}
}

// expr prints an expression at a place that needs at least a level.
func (p *printer) expr(e api.Expr, level int) {
	if operations[e.Op].level < level {
		p.enclosed(e)
		return
	}
	switch e.Op {
	case api.ExNumber:
		p.put(number(e.N))
	case api.ExText:
		p.put(text(e.S))
	case api.ExName:
		p.put(name(e.S))
	case api.ExCall:
		p.call(e)
	default:
		p.operation(e)
	}
}

// enclosed prints an expression in parentheses.
func (p *printer) enclosed(e api.Expr) {
	p.put(sign("("))
	p.expr(e, levelExpr)
	p.put(sign(")"))
}

// call prints a call.
func (p *printer) call(e api.Expr) {
	p.put(name(e.S), sign("("))
	for i, k := range e.Kids {
		if i > 0 {
			p.put(sign(","))
		}
		p.expr(k, levelExpr)
	}
	p.put(sign(")"))
}

// operation prints an operation of one, two or three kids.
func (p *printer) operation(e api.Expr) {
	o := operations[e.Op]
	if o.kids == 1 {
		p.put(sign(o.sign))
		p.expr(e.Kids[0], o.first)
		return
	}
	p.expr(e.Kids[0], o.first)
	p.put(sign(o.sign))
	p.expr(e.Kids[1], o.rest)
	if o.kids == 3 {
		p.put(sign(":"))
		p.expr(e.Kids[2], o.rest)
	}
}
