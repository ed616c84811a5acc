package compile

import "selfsame/api"

// Predeclared procedures, by their numbers; those from stdInc on are statements.
const (
	stdAbs = 1 + iota
	stdOdd
	stdOrd
	stdChr
	stdLsl
	stdAsr
	stdLen
	stdOld
	stdFresh
	stdEOF
	stdLength
	stdInc
	stdDec
	stdNew
	stdAssert
	stdHalt
	stdRead
	stdWrite
	stdReadWord
	stdWriteWord
	stdSeek
	stdRegister
	stdDelete
)

// integer is a parameter that is a number.
func (c *compiler) integer(x *item) {
	c.expression(x)
	c.ask(c.table.Integer(x.typ), errTypes)
}

// function is a predeclared procedure that tells something.
func (c *compiler) function(std int, x *item) {
	c.skip(api.SymOpen)
	switch std {
	case stdAbs, stdOdd, stdChr:
		c.integer(x)
		c.ofNumber(std, x)
	case stdOrd:
		c.expression(x)
		c.ask(c.table.Integer(x.typ) || x.typ == api.TypeChar || x.typ == api.TypeBoolean || x.typ == api.TypeSet, errTypes)
		c.hold(x)
		x.typ = api.TypeInteger
	case stdLsl, stdAsr:
		c.shift(std, x)
	case stdLen:
		c.length(x)
	default:
		c.ofFile(std, x)
	}
	c.skip(api.SymClose)
}

func (c *compiler) ofNumber(std int, x *item) {
	c.hold(x)
	constant := x.mode == modeConst
	x.typ = api.TypeInteger
	switch std {
	case stdAbs:
		if !constant {
			c.abs(x)
		} else if x.a < 0 {
			x.a = wrap(-x.a)
		}
	case stdOdd:
		x.typ = api.TypeBoolean
		if constant {
			x.a &= 1
		} else {
			c.odd(x)
		}
	case stdChr:
		x.typ = api.TypeChar
		if constant {
			x.a &= 255
		} else {
			c.im(api.OpAnd, x.r, x.r, 255)
		}
	}
}

func (c *compiler) shift(std int, x *item) {
	c.integer(x)
	c.hold(x)
	c.skip(api.SymComma)
	var n item
	c.integer(&n)
	op := api.OpLsl
	if std == stdAsr {
		op = api.OpAsr
	}
	switch {
	case x.mode != modeConst || n.mode != modeConst:
		if n.mode == modeConst {
			n.a &= 31
		}
		c.operate(op, x, &n)
	case std == stdLsl:
		x.a = int(int32(x.a) << (n.a & 31))
	default:
		x.a = int(int32(x.a) >> (n.a & 31))
	}
	x.typ = api.TypeInteger
}

// length is LEN: the variable is found, with its traps.
func (c *compiler) length(x *item) {
	c.designator(x)
	t, _ := c.table.Get(x.typ)
	c.ask(t.Form == api.FormArray || t.Form == api.FormOpen, errTypes)
	if x.mode == modeInd {
		c.rh--
	}
	n := item{mode: modeLocal, a: x.a + wordBytes, typ: api.TypeInteger}
	if t.Form == api.FormArray {
		n = item{a: t.Length}
	}
	c.load(&n)
	*x = item{mode: modeReg, typ: api.TypeInteger, r: n.r}
}

// ofFile is OLD, FRESH, EOF, LENGTH.
func (c *compiler) ofFile(std int, x *item) {
	k := c.prepare()
	typ := api.TypeInteger
	switch std {
	case stdOld, stdFresh:
		c.array(api.TypeChar, false, x)
	case stdEOF:
		typ = api.TypeBoolean
		fallthrough
	default:
		c.integer(x)
		c.load(x)
	}
	c.sys(api.CallOld + std - stdOld)
	c.resume(k, x)
	x.typ = typ
}

// standard is a predeclared procedure that is a statement.
func (c *compiler) standard(std int) {
	c.skip(api.SymOpen)
	var x item
	switch std {
	case stdInc, stdDec:
		c.increase(std == stdDec)
	case stdNew:
		c.allotNew()
	case stdAssert:
		c.assert()
	case stdHalt:
		c.integer(&x)
		c.load(&x)
		c.sys(api.CallHalt)
	case stdRead, stdReadWord:
		c.read(std)
	case stdWrite, stdWriteWord, stdSeek:
		c.write(std)
	case stdRegister:
		c.integer(&x)
		c.load(&x)
		c.sys(api.CallRegister)
	case stdDelete:
		c.array(api.TypeChar, false, &x)
		c.sys(api.CallDelete)
	}
	c.skip(api.SymClose)
}

// target is a variable that may be written to.
func (c *compiler) target(x *item) {
	c.designator(x)
	c.ask(!x.fixed, errFixed)
}

func (c *compiler) increase(less bool) {
	var v item
	c.target(&v)
	c.ask(c.table.Integer(v.typ), errTypes)
	n := item{typ: api.TypeInteger, a: 1}
	if c.may(api.SymComma) {
		c.integer(&n)
		c.hold(&n)
	}
	r := c.take()
	c.fetch(&v, r)
	op := api.OpAdd
	if less {
		op = api.OpSub
	}
	if n.mode == modeConst {
		c.withConst(op, r, r, n.a)
	} else {
		c.reg(op, r, r, n.r)
	}
	c.store(&v, &item{mode: modeReg, r: r})
}

func (c *compiler) allotNew() {
	var p item
	c.target(&p)
	t, _ := c.table.Get(p.typ)
	c.ask(t.Form == api.FormPointer, errTypes)
	if p.mode == modeInd {
		// The call's answer comes where the address stands.
		c.reg(api.OpMov, scratch, 0, p.r)
		p.r = scratch
	}
	c.loadConst(0, c.table.Size(t.Base))
	c.sys(api.CallNew)
	c.store(&p, &item{mode: modeReg, r: 0})
}

func (c *compiler) assert() {
	var x item
	c.expression(&x)
	c.ask(x.typ == api.TypeBoolean, errTypes)
	c.when(&x)
	c.trap(condT, api.TrapAssert)
	c.fixLink(x.b)
}

// read is READ, READW.
func (c *compiler) read(std int) {
	var f, v item
	c.integer(&f)
	c.load(&f)
	c.skip(api.SymComma)
	c.target(&v)
	if std == stdRead {
		c.ask(v.typ == api.TypeChar || v.typ == api.TypeByte, errTypes)
		c.sys(api.CallRead)
	} else {
		c.ask(v.typ == api.TypeInteger, errTypes)
		c.sys(api.CallReadWord)
	}
	c.store(&v, &item{mode: modeReg, r: 0})
}

// write is WRITE, WRITEW, SEEK.
func (c *compiler) write(std int) {
	var f, x item
	c.integer(&f)
	c.load(&f)
	c.skip(api.SymComma)
	c.expression(&x)
	c.ask(c.table.Integer(x.typ) || std == stdWrite && x.typ == api.TypeChar, errTypes)
	c.load(&x)
	switch std {
	case stdWrite:
		c.sys(api.CallWrite)
	case stdWriteWord:
		c.sys(api.CallWriteWord)
	default:
		c.sys(api.CallSeek)
	}
}
