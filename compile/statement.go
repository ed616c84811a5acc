package compile

import "selfsame/api"

func (c *compiler) statements() {
	c.deeper()
	c.statement()
	for c.may(api.SymSemicolon) {
		c.statement()
	}
	c.depth--
}

func (c *compiler) statement() {
	switch c.sym.Sym {
	case api.SymName:
		c.simpleStatement()
	case api.SymIf:
		c.ifStatement()
	case api.SymWhile:
		c.get()
		first := c.pc()
		var x item
		c.condition(&x)
		c.skip(api.SymDo)
		c.statements()
		c.branch(condT, first-c.pc()-1)
		c.fixLink(x.a)
		c.skip(api.SymEndWord)
	case api.SymRepeat:
		c.repeatStatement()
	}
	c.rh = 0
}

// condition is a BOOLEAN; jumps are made, if it does not hold.
func (c *compiler) condition(x *item) {
	c.expression(x)
	c.ask(x.typ == api.TypeBoolean, errTypes)
	c.unless(x)
}

func (c *compiler) ifStatement() {
	over := 0
	var x item
	for {
		c.get()
		c.condition(&x)
		c.skip(api.SymThen)
		c.statements()
		if !c.is(api.SymElsif) {
			break
		}
		over = c.jump(over)
		c.fixLink(x.a)
	}
	if c.may(api.SymElse) {
		over = c.jump(over)
		c.fixLink(x.a)
		c.statements()
	} else {
		c.fixLink(x.a)
	}
	c.fixLink(over)
	c.skip(api.SymEndWord)
}

// jump makes a jump that goes where others go.
func (c *compiler) jump(others int) int {
	c.branch(condT, others)
	return c.pc() - 1
}

func (c *compiler) repeatStatement() {
	c.get()
	first := c.pc()
	c.statements()
	c.skip(api.SymUntil)
	var x item
	c.expression(&x)
	c.ask(x.typ == api.TypeBoolean, errTypes)
	c.loadCond(&x)
	c.branch(x.r^switchCond, first-c.pc()-1)
	c.fixLinkTo(x.a, first)
	c.fixLink(x.b)
}

// simpleStatement is an assignment, or a call.
func (c *compiler) simpleStatement() {
	t, n := c.qualname()
	var x, y item
	switch t.Class {
	case api.ClassProc:
		c.ask(t.Type == 0, errClass)
		c.arguments(&t, n)
	case api.ClassStd:
		c.ask(t.Value >= stdInc, errClass)
		c.standard(int(t.Value))
	default:
		c.variable(&t, &x)
		c.ask(c.table.Scalar(x.typ), errScalar)
		c.ask(!x.fixed, errFixed)
		c.skip(api.SymBecomes)
		c.expression(&y)
		c.ask(c.fits(x.typ, &y), errUnfit)
		c.store(&x, &y)
	}
}

// arguments hands parameters in, and calls.
func (c *compiler) arguments(t *api.Thing, n int) {
	if c.may(api.SymOpen) {
		for i, p := range t.Params {
			if i > 0 {
				c.skip(api.SymComma)
			}
			c.argument(p)
		}
		c.skip(api.SymClose)
	} else {
		c.ask(len(t.Params) == 0, errParams)
	}
	if t.Module > 0 {
		c.fixup(c.place(t.Module), int(t.Value))
		c.call(0)
		return
	}
	c.call(c.places[n] - c.pc() - 1)
}

// argument is handed in.
func (c *compiler) argument(p api.Param) {
	t, _ := c.table.Get(p.Type)
	var x item
	switch {
	case t.Form == api.FormOpen:
		c.array(t.Base, p.Var, &x)
	case p.Var || !c.table.Scalar(p.Type):
		c.designator(&x)
		c.ask(x.typ == p.Type && p.Type != api.TypeNil, errUnfit)
		c.ask(!p.Var || !x.fixed, errFixed)
		c.address(&x)
	default:
		c.expression(&x)
		c.ask(c.fits(p.Type, &x), errUnfit)
		c.load(&x)
	}
}

// array is an array's address, and its length; of CHAR a string's, too.
func (c *compiler) array(base int, isVar bool, x *item) {
	var length item
	if c.is(api.SymString) && base == api.TypeChar && !isVar {
		n := len(c.sym.Text) + 1
		*x = item{mode: modeGlobal, a: c.vars + len(c.text)}
		c.ask(len(c.text)+n <= api.MaxText, errText)
		c.text = append(append(c.text, c.sym.Text...), 0)
		c.get()
		c.address(x)
		length.a = n
		c.load(&length)
		return
	}
	c.designator(x)
	t, _ := c.table.Get(x.typ)
	c.ask((t.Form == api.FormArray || t.Form == api.FormOpen) && t.Base == base, errUnfit)
	c.ask(!isVar || !x.fixed, errFixed)
	if t.Form == api.FormOpen {
		length = item{mode: modeLocal, typ: api.TypeInteger, a: x.a + wordBytes}
	} else {
		length.a = t.Length
	}
	c.address(x)
	c.load(&length)
}

// designator is a variable.
func (c *compiler) designator(x *item) {
	t, _ := c.qualname()
	c.variable(&t, x)
}

// variable is one that a thing is, and goes on to parts of it.
func (c *compiler) variable(t *api.Thing, x *item) {
	c.ask(t.Class == api.ClassVar || t.Class == api.ClassPar, errVariable)
	*x = item{mode: modeLocal, typ: t.Type, a: int(t.Value), fixed: t.Fixed}
	switch {
	case t.Module > 0:
		x.mode, x.r = modeGlobal, c.place(t.Module)
	case t.Level == 0:
		x.mode = modeGlobal
	default:
		c.ask(t.Level == c.scope.Level(), errLevel)
		if t.Class == api.ClassPar {
			x.mode = modePar
		}
	}
	for {
		switch c.sym.Sym {
		case api.SymOpenIndex:
			c.element(x)
		case api.SymPeriod:
			c.member(x)
		case api.SymArrow:
			c.ask(c.form(x.typ) == api.FormPointer, errTypes)
			c.pointed(x)
			c.get()
		default:
			return
		}
	}
}

func (c *compiler) pointed(x *item) {
	t, _ := c.table.Get(x.typ)
	c.deref(x)
	x.typ = t.Base
}

func (c *compiler) element(x *item) {
	t, _ := c.table.Get(x.typ)
	c.ask(t.Form == api.FormArray || t.Form == api.FormOpen, errTypes)
	c.get()
	var y item
	c.expression(&y)
	c.ask(c.table.Integer(y.typ), errTypes)
	c.index(x, &y, t.Length, c.table.Size(t.Base))
	x.typ = t.Base
	c.skip(api.SymCloseIndex)
}

func (c *compiler) member(x *item) {
	if c.form(x.typ) == api.FormPointer {
		c.pointed(x)
	}
	c.ask(c.form(x.typ) == api.FormRecord, errTypes)
	c.get()
	c.ask(c.is(api.SymName), errSymbol)
	f, ok := c.table.Field(x.typ, c.sym.Id)
	c.ask(ok, errUnknown)
	c.field(x, f.Offset)
	x.typ = f.Type
	c.get()
}
