package typing

import "selfsame/api"

// value is what an expression tells, or a variable is.
type value struct {
	typ             *typ
	constant        bool
	num             int32
	variable, fixed bool
}

func (c *checker) constant(typ int, num int32) value {
	return value{typ: c.basic[typ], constant: true, num: num}
}

func (c *checker) of(typ int) value { return value{typ: c.basic[typ]} }

func truth(b bool) int32 {
	if b {
		return 1
	}
	return 0
}

func (c *checker) expr(n api.Node) value {
	switch n.Kind {
	case api.NodeNumber:
		return c.constant(api.TypeInteger, int32(n.Value))
	case api.NodeChar:
		return c.constant(api.TypeChar, int32(n.Value))
	case api.NodeString:
		c.ask(len(n.Name) == 1)
		return c.constant(api.TypeChar, int32(n.Name[0]))
	case api.NodeNil:
		return c.constant(api.TypeNil, 0)
	case api.NodeTrue, api.NodeFalse:
		return c.constant(api.TypeBoolean, truth(n.Kind == api.NodeTrue))
	case api.NodeSet:
		return c.set(n)
	case api.NodeParen:
		x := c.expr(n.Kids[0])
		x.variable = false
		return x
	case api.NodeNot:
		x := c.expr(n.Kids[0])
		c.ask(x.typ.basic == api.TypeBoolean)
		return value{typ: x.typ, constant: x.constant, num: 1 - x.num}
	case api.NodeSign:
		return c.sign(n)
	case api.NodeOp:
		return c.operation(n)
	case api.NodeCall:
		return c.call(n)
	}
	return c.designator(n)
}

func (c *checker) set(n api.Node) value {
	x := c.constant(api.TypeSet, 0)
	for _, k := range n.Kids {
		y := c.expr(k)
		c.ask(y.typ.integer())
		x.constant = x.constant && y.constant
		x.num |= 1 << (y.num & 31)
	}
	return x
}

func (c *checker) sign(n api.Node) value {
	x := c.expr(n.Kids[0])
	c.ask(x.typ.integer())
	if n.Name == "-" {
		x.num = -x.num
	}
	return value{typ: c.basic[api.TypeInteger], constant: x.constant, num: x.num}
}

func (c *checker) operation(n api.Node) value {
	x, y := c.expr(n.Kids[0]), c.expr(n.Kids[1])
	a, b := x.typ, y.typ
	both := func(typ int) bool { return a.basic == typ && b.basic == typ }
	switch n.Name {
	case "=", "#":
		c.ask(equals(a, b))
		return c.of(api.TypeBoolean)
	case "<", "<=", ">", ">=":
		c.ask(a.integer() && b.integer() || both(api.TypeChar))
		return c.of(api.TypeBoolean)
	case "IN":
		c.ask(a.integer() && b.basic == api.TypeSet)
		return c.of(api.TypeBoolean)
	}
	result := value{typ: a, constant: x.constant && y.constant}
	switch {
	case n.Name == "&" || n.Name == "OR":
		c.ask(both(api.TypeBoolean))
		result.num = x.num & y.num
		if n.Name == "OR" {
			result.num = x.num | y.num
		}
	case both(api.TypeSet):
		result.num = c.sets(n.Name, x.num, y.num)
	default:
		c.ask(a.integer() && b.integer() && n.Name != "/")
		c.ask(n.Name != "DIV" && n.Name != "MOD" || !y.constant || y.num > 0)
		result.typ = c.basic[api.TypeInteger]
		if result.constant {
			result.num = numbers(n.Name, x.num, y.num)
		}
	}
	return result
}

func (c *checker) sets(op string, a, b int32) int32 {
	switch op {
	case "+":
		return a | b
	case "-":
		return a &^ b
	case "*":
		return a & b
	}
	c.ask(op == "/")
	return a ^ b
}

func numbers(op string, a, b int32) int32 {
	switch op {
	case "+":
		return a + b
	case "-":
		return a - b
	case "*":
		return a * b
	}
	q, r := int64(a)/int64(b), int64(a)%int64(b)
	if r < 0 {
		q, r = q-1, r+int64(b)
	}
	if op == "DIV" {
		return int32(q)
	}
	return int32(r)
}

// designator is a variable, or a constant.
func (c *checker) designator(n api.Node) value {
	if t := c.named(n); t != nil {
		if t.class == api.ClassConst {
			return value{typ: t.typ, constant: true, num: t.num}
		}
		c.ask(t.class == api.ClassVar && (t.level == 0 || t.level == c.level))
		return value{typ: t.typ, variable: true, fixed: t.fixed}
	}
	x := c.variable(n.Kids[0])
	switch n.Kind {
	case api.NodeIndex:
		c.ask(x.typ.array())
		c.ask(c.expr(n.Kids[1]).typ.integer())
		x.typ = x.typ.base
	case api.NodeDeref:
		x = c.deref(x)
	case api.NodeField:
		if x.typ.form == api.FormPointer {
			x = c.deref(x)
		}
		f, ok := x.typ.field(n.Name)
		c.ask(ok)
		x.typ = f.typ
	}
	return x
}

func (c *checker) deref(x value) value {
	c.ask(x.typ.form == api.FormPointer)
	return value{typ: x.typ.base, variable: true}
}

// variable is one that a node has to be.
func (c *checker) variable(n api.Node) value {
	switch n.Kind {
	case api.NodeName, api.NodeField, api.NodeIndex, api.NodeDeref:
		x := c.designator(n)
		c.ask(x.variable)
		return x
	}
	c.ask(false)
	return value{}
}

// target is a variable that may be written to.
func (c *checker) target(n api.Node) value {
	x := c.variable(n)
	c.ask(!x.fixed)
	return x
}

// call is a call that tells something.
func (c *checker) call(n api.Node) value {
	t := c.named(n.Kids[0])
	c.ask(t != nil)
	if t.class == api.ClassStd {
		f := c.functions[t.name]
		c.ask(f.do != nil && len(n.Kids)-1 == f.params)
		return f.do(c, n.Kids[1:])
	}
	c.ask(t.class == api.ClassProc && t.typ != nil)
	c.arguments(t, n.Kids[1:])
	return value{typ: t.typ}
}

func (c *checker) arguments(t *thing, l []api.Node) {
	c.ask(len(l) == len(t.params))
	for i, p := range t.params {
		c.argument(p, l[i])
	}
}

func (c *checker) argument(p param, n api.Node) {
	switch {
	case p.typ.form == api.FormOpen:
		c.openArray(p, n)
	case p.isVar:
		c.ask(c.target(n).typ == p.typ && p.typ.basic != api.TypeNil)
	case !p.typ.scalar():
		c.ask(c.variable(n).typ == p.typ)
	default:
		c.ask(fits(p.typ, c.expr(n).typ))
	}
}

// openArray: may it be handed in as an open array?
func (c *checker) openArray(p param, n api.Node) {
	if n.Kind == api.NodeString {
		c.ask(!p.isVar && p.typ.base.basic == api.TypeChar)
		return
	}
	x := c.variable(n)
	c.ask(x.typ.array() && x.typ.base == p.typ.base && !(p.isVar && x.fixed))
}

func (c *checker) stmts(n api.Node) {
	for _, k := range n.Kids {
		c.stmt(k)
	}
}

func (c *checker) condition(n api.Node) { c.ask(c.expr(n).typ.basic == api.TypeBoolean) }

func (c *checker) stmt(n api.Node) {
	switch n.Kind {
	case api.NodeAssign:
		x := c.target(n.Kids[0])
		c.ask(fits(x.typ, c.expr(n.Kids[1]).typ))
	case api.NodeCall:
		c.callStmt(n)
	case api.NodeIf:
		for _, k := range n.Kids {
			if k.Kind == api.NodeStmts {
				c.stmts(k)
			} else {
				c.condition(k)
			}
		}
	case api.NodeWhile:
		c.condition(n.Kids[0])
		c.stmts(n.Kids[1])
	case api.NodeRepeat:
		c.stmts(n.Kids[0])
		c.condition(n.Kids[1])
	}
}

func (c *checker) callStmt(n api.Node) {
	t := c.named(n.Kids[0])
	c.ask(t != nil)
	if t.class == api.ClassStd {
		p := c.procedures[t.name]
		c.ask(p.do != nil && len(n.Kids)-1 >= p.least && len(n.Kids)-1 <= p.most)
		p.do(c, n.Kids[1:])
		return
	}
	c.ask(t.class == api.ClassProc && t.typ == nil)
	c.arguments(t, n.Kids[1:])
}
