package parse

import "rivermark/api"

// whole reads an expression that is in no other one.
func (p *parser) whole() api.Expr { return p.nested(levelExpr, 1) }

// nested reads an expression of at least a level that begins a new depth.
func (p *parser) nested(level, depth int) api.Expr {
	p.expect(p.begins(level))
	p.allow(depth <= api.MaxNest)
	return p.expr(level, depth)
}

// begins reports whether an expression of at least a level can begin with the next token.
func (p *parser) begins(level int) bool {
	switch p.next().Kind {
	case api.TkName, api.TkNumber, api.TkText:
		return true
	}
	return p.is("(") || level <= levelNeg && p.is("-") || level <= levelNot && p.is("!")
}

// expr reads an expression of at least a level.
func (p *parser) expr(level, depth int) api.Expr {
	switch level {
	case levelExpr:
		return p.choice(depth)
	case levelNot:
		return p.prefix(api.ExNot, depth)
	case levelNeg:
		return p.prefix(api.ExNeg, depth)
	case levelAtom:
		return p.atom(depth)
	}
	return p.chain(level, depth)
}

// choice reads an expression of any level.
func (p *parser) choice(depth int) api.Expr {
	e := p.expr(operations[api.ExIf].first, depth)
	if !p.skip("?") {
		return e
	}
	yes := p.nested(operations[api.ExIf].rest, depth+1)
	p.need(":")
	no := p.nested(operations[api.ExIf].rest, depth+1)
	return api.Expr{Op: api.ExIf, Kids: []api.Expr{e, yes, no}, At: e.At}
}

// prefix reads an operation of one kid, or an expression of a greater level.
func (p *parser) prefix(op, depth int) api.Expr {
	at := p.next().At
	if !p.skip(operations[op].sign) {
		return p.expr(operations[op].level+1, depth)
	}
	return api.Expr{Op: op, Kids: []api.Expr{p.nested(operations[op].first, depth+1)}, At: at}
}

// chain reads operations of two kids, all of one level, or an expression of a greater level.
func (p *parser) chain(level, depth int) api.Expr {
	e, has := p.expr(level+1, depth), level+1
	for {
		op := p.operator(level)
		if op == 0 || has < operations[op].first {
			return e
		}
		p.at++
		e = api.Expr{Op: op, Kids: []api.Expr{e, p.expr(operations[op].rest, depth)}, At: e.At}
		has = level
	}
}

// operator returns the operation of two kids of a level that the next token is the sign of, 0 if there is none.
func (p *parser) operator(level int) int {
	for op := range operations {
		if operations[op].kids == 2 && operations[op].level == level && p.is(operations[op].sign) {
			return op
		}
	}
	return 0
}

// atom reads an expression that is no operation, or is in parentheses.
func (p *parser) atom(depth int) api.Expr {
	p.expect(p.begins(levelAtom))
	t := p.take()
	switch t.Kind {
	case api.TkNumber:
		return api.Expr{Op: api.ExNumber, N: t.N, At: t.At}
	case api.TkText:
		return api.Expr{Op: api.ExText, S: t.S, At: t.At}
	case api.TkName:
		if p.skip("(") {
			return api.Expr{Op: api.ExCall, S: t.S, Kids: p.called(depth), At: t.At}
		}
		return api.Expr{Op: api.ExName, S: t.S, At: t.At}
	}
	e := p.nested(levelExpr, depth+1)
	p.need(")")
	return e
}

// called reads the arguments of a call of a depth, after its parenthesis.
func (p *parser) called(depth int) []api.Expr {
	if p.skip(")") {
		return nil
	}
	var l []api.Expr
	for len(l) == 0 || p.skip(",") {
		p.expect(p.begins(levelExpr))
		p.allow(len(l) < api.MaxArgs)
		l = append(l, p.nested(levelExpr, depth+1))
	}
	p.need(")")
	return l
}
