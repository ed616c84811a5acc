package syntax

import "selfsame/api"

func (p *parser) stmts() api.Node {
	n := of(api.NodeStmts)
	for {
		if s := p.stmt(); s.Kind != 0 {
			n.Kids = append(n.Kids, s)
		}
		if !p.may(";") {
			return n
		}
	}
}

// stmt is a statement; one of kind 0 is none.
func (p *parser) stmt() api.Node {
	switch {
	case p.sym.kind == kindName:
		d := p.designator()
		if p.may(":=") {
			return of(api.NodeAssign, d, p.expr())
		}
		return p.call(d)
	case p.may("IF"):
		return p.ifStmt()
	case p.may("WHILE"):
		x := p.expr()
		p.skip("DO")
		n := of(api.NodeWhile, x, p.stmts())
		p.skip("END")
		return n
	case p.may("REPEAT"):
		s := p.stmts()
		p.skip("UNTIL")
		return of(api.NodeRepeat, s, p.expr())
	}
	return api.Node{}
}

func (p *parser) ifStmt() api.Node {
	n := of(api.NodeIf)
	for {
		x := p.expr()
		p.skip("THEN")
		n.Kids = append(n.Kids, x, p.stmts())
		if !p.may("ELSIF") {
			break
		}
	}
	if p.may("ELSE") {
		n.Kids = append(n.Kids, p.stmts())
	}
	p.skip("END")
	return n
}

// call is a call of a designator, with parameters if some stand here.
func (p *parser) call(d api.Node) api.Node {
	n := of(api.NodeCall, d)
	if p.may("(") {
		if !p.is(")") {
			n.Kids = append(n.Kids, p.list(",", p.expr)...)
		}
		p.skip(")")
	}
	return n
}

func (p *parser) designator() api.Node {
	n := p.name()
	for {
		switch {
		case p.may("."):
			n = named(api.NodeField, p.ident(), n)
		case p.may("["):
			n = of(api.NodeIndex, n, p.expr())
			p.skip("]")
		case p.may("^"):
			n = of(api.NodeDeref, n)
		default:
			return n
		}
	}
}

// operator is what stands here.
func (p *parser) operator() string {
	text := p.sym.text
	p.get()
	return text
}

func (p *parser) expr() api.Node {
	n := p.simple()
	if p.is("=", "#", "<", "<=", ">", ">=", "IN") {
		op := p.operator()
		return named(api.NodeOp, op, n, p.simple())
	}
	return n
}

func (p *parser) simple() api.Node {
	var n api.Node
	if p.is("+", "-") {
		op := p.operator()
		n = named(api.NodeSign, op, p.term())
	} else {
		n = p.term()
	}
	for p.is("+", "-", "OR") {
		op := p.operator()
		n = named(api.NodeOp, op, n, p.term())
	}
	return n
}

func (p *parser) term() api.Node {
	n := p.factor()
	for p.is("*", "/", "DIV", "MOD", "&") {
		op := p.operator()
		n = named(api.NodeOp, op, n, p.factor())
	}
	return n
}

func (p *parser) factor() api.Node {
	x := p.sym
	switch x.kind {
	case kindNumber:
		p.get()
		return api.Node{Kind: api.NodeNumber, Value: x.value}
	case kindChar:
		p.get()
		return api.Node{Kind: api.NodeChar, Value: x.value}
	case kindString:
		p.get()
		return named(api.NodeString, x.text[1:len(x.text)-1])
	case kindName:
		d := p.designator()
		if p.is("(") {
			return p.call(d)
		}
		return d
	}
	return p.signFactor()
}

func (p *parser) signFactor() api.Node {
	switch {
	case p.may("NIL"):
		return of(api.NodeNil)
	case p.may("TRUE"):
		return of(api.NodeTrue)
	case p.may("FALSE"):
		return of(api.NodeFalse)
	case p.may("~"):
		return of(api.NodeNot, p.factor())
	case p.may("("):
		n := of(api.NodeParen, p.expr())
		p.skip(")")
		return n
	case p.may("{"):
		n := of(api.NodeSet)
		if !p.is("}") {
			n.Kids = p.list(",", p.expr)
		}
		p.skip("}")
		return n
	}
	p.fail()
	return api.Node{}
}
