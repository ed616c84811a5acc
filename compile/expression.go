package compile

import "selfsame/api"

// fits: may a value be put where that type is asked for?
func (c *compiler) fits(to int, x *item) bool {
	return to != api.TypeNil && c.table.Scalar(to) && c.table.Fits(to, x.typ)
}

// fitEach: may two values be held against each other? x is a scalar; NIL is put into nothing of its own type, but is like itself.
func (c *compiler) fitEach(x, y *item) bool { return x.typ == y.typ || c.fits(x.typ, y) || c.fits(y.typ, x) }

// hold keeps a value as it is now, while others are reckoned.
func (c *compiler) hold(x *item) {
	if x.mode != modeConst {
		c.load(x)
	}
}

func (c *compiler) expression(x *item) {
	c.deeper()
	c.simple(x)
	if op := c.sym.Sym; op >= api.SymEqual && op <= api.SymMoreEqual || op == api.SymIn {
		c.ask(c.table.Scalar(x.typ), errTypes)
		c.hold(x)
		c.get()
		var y item
		c.simple(&y)
		c.relation(op, x, &y)
		x.typ = api.TypeBoolean
	}
	c.depth--
}

func (c *compiler) relation(op int, x, y *item) {
	switch op {
	case api.SymIn:
		c.ask(c.table.Integer(x.typ) && y.typ == api.TypeSet, errTypes)
		c.in(x, y)
		return
	case api.SymEqual, api.SymUnlike:
		c.ask(c.fitEach(x, y), errTypes)
	default:
		c.ask(c.table.Integer(x.typ) && c.table.Integer(y.typ) || x.typ == api.TypeChar && y.typ == api.TypeChar, errTypes)
	}
	c.compare(c.signs.conds[op], x, y)
}

func (c *compiler) simple(x *item) {
	sign := c.sym.Sym
	if sign == api.SymPlus || sign == api.SymMinus {
		c.get()
		c.term(x)
		c.ask(c.table.Integer(x.typ), errTypes)
		c.hold(x)
		if sign == api.SymMinus {
			c.negate(x)
		}
		x.typ = api.TypeInteger
	} else {
		c.term(x)
	}
	for c.is(api.SymPlus) || c.is(api.SymMinus) || c.is(api.SymOr) {
		if c.is(api.SymOr) {
			c.truths(x, 1, c.term)
		} else {
			c.arithmetic(x, c.term)
		}
	}
}

func (c *compiler) term(x *item) {
	c.factor(x)
	for {
		switch c.sym.Sym {
		case api.SymAnd:
			c.truths(x, 0, c.factor)
		case api.SymTimes, api.SymSlash, api.SymDiv, api.SymMod:
			c.arithmetic(x, c.factor)
		default:
			return
		}
	}
}

// truths is & (tells: 0), or OR (tells: 1): the value of x that tells the result alone.
func (c *compiler) truths(x *item, tells int, operand func(*item)) {
	c.ask(x.typ == api.TypeBoolean, errTypes)
	was, before := *x, c.pc()
	if tells == 0 {
		c.unless(x)
	} else {
		c.when(x)
	}
	c.get()
	var y item
	operand(&y)
	c.ask(y.typ == api.TypeBoolean, errTypes)
	switch {
	case was.mode == modeConst && y.mode == modeConst:
		c.code = c.code[:before] // constants make no code
		*x = was
		if was.a != tells {
			x.a = y.a
		}
	case tells == 0:
		c.both(x, &y)
	default:
		c.either(x, &y)
	}
}

// arithmetic is an operation of numbers, or of sets.
func (c *compiler) arithmetic(x *item, operand func(*item)) {
	op := c.sym.Sym
	number := c.table.Integer(x.typ)
	c.ask(number && op != api.SymSlash || x.typ == api.TypeSet && op != api.SymDiv && op != api.SymMod, errTypes)
	c.hold(x)
	c.get()
	var y item
	operand(&y)
	if number {
		c.ask(c.table.Integer(y.typ), errTypes)
		c.numbers(op, x, &y)
		x.typ = api.TypeInteger
		return
	}
	c.ask(y.typ == api.TypeSet, errTypes)
	if x.mode == modeConst && y.mode == modeConst {
		x.a = foldSets(op, x.a, y.a)
		return
	}
	c.operate(c.signs.sets[op], x, &y)
}

func (c *compiler) numbers(op int, x, y *item) {
	divides := op == api.SymDiv || op == api.SymMod
	c.ask(!divides || y.mode != modeConst || y.a > 0, errDivisor)
	switch {
	case x.mode == modeConst && y.mode == modeConst:
		x.a = foldNumbers(op, x.a, y.a)
	case divides:
		c.divide(op == api.SymMod, x, y)
	default:
		c.operate(c.signs.numbers[op], x, y)
	}
}

func foldNumbers(op, a, b int) int {
	switch op {
	case api.SymPlus:
		a += b
	case api.SymMinus:
		a -= b
	case api.SymTimes:
		a *= b
	case api.SymDiv:
		a = (a - (a%b+b)%b) / b
	case api.SymMod:
		a = (a%b + b) % b
	}
	return wrap(a)
}

func foldSets(op, a, b int) int {
	switch op {
	case api.SymPlus:
		a |= b
	case api.SymMinus:
		a &^= b
	case api.SymTimes:
		a &= b
	case api.SymSlash:
		a ^= b
	}
	return wrap(a)
}

func (c *compiler) constItem(x *item, typ, a int) {
	*x = item{mode: modeConst, typ: typ, a: a}
	c.get()
}

func (c *compiler) factor(x *item) {
	nots := 0
	for c.may(api.SymNot) {
		nots++
	}
	switch c.sym.Sym {
	case api.SymNumber:
		c.constItem(x, api.TypeInteger, int(c.sym.Val))
	case api.SymString:
		c.ask(len(c.sym.Text) == 1, errTypes)
		c.constItem(x, api.TypeChar, int(c.sym.Val))
	case api.SymChar:
		c.constItem(x, api.TypeChar, int(c.sym.Val))
	case api.SymNil:
		c.constItem(x, api.TypeNil, 0)
	case api.SymTrue:
		c.constItem(x, api.TypeBoolean, 1)
	case api.SymFalse:
		c.constItem(x, api.TypeBoolean, 0)
	case api.SymOpenSet:
		c.set(x)
	case api.SymOpen:
		c.get()
		c.expression(x)
		c.skip(api.SymClose)
	case api.SymName:
		c.named(x)
	default:
		c.stop(errSymbol)
	}
	if nots > 0 {
		c.ask(x.typ == api.TypeBoolean, errTypes)
		for range nots % 2 {
			c.not(x)
		}
	}
}

// named is what a name stands for, or tells.
func (c *compiler) named(x *item) {
	t, n := c.qualname()
	switch t.Class {
	case api.ClassConst:
		*x = item{mode: modeConst, typ: t.Type, a: int(t.Value)}
	case api.ClassProc:
		c.ask(t.Type != 0 && c.is(api.SymOpen), errClass)
		k := c.prepare()
		c.arguments(&t, n)
		c.resume(k, x)
		x.typ = t.Type
	case api.ClassStd:
		c.ask(t.Value < stdInc, errClass)
		c.function(int(t.Value), x)
	default:
		c.variable(&t, x)
	}
}

func (c *compiler) set(x *item) {
	c.get()
	bits, some := 0, false
	*x = item{mode: modeReg, typ: api.TypeSet}
	for !c.is(api.SymCloseSet) {
		var y item
		c.expression(&y)
		c.ask(c.table.Integer(y.typ), errTypes)
		switch {
		case y.mode == modeConst:
			bits |= 1 << (y.a & 31)
		case some:
			c.single(&y)
			c.reg(api.OpIor, x.r, x.r, y.r)
			c.rh--
		default:
			c.single(&y)
			x.r, some = y.r, true
		}
		if !c.may(api.SymComma) {
			break
		}
		c.ask(!c.is(api.SymCloseSet), errSymbol)
	}
	bits = wrap(bits)
	if !some {
		x.mode, x.a = modeConst, bits
	} else if bits != 0 {
		c.withConst(api.OpIor, x.r, x.r, bits)
	}
	c.skip(api.SymCloseSet)
}
