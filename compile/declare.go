package compile

import (
	"slices"

	"selfsame/api"
	"selfsame/symfile"
)

const maxGroup = 100 // names in one list of fields

func roundUp(n int) int { return (n + 3) / 4 * 4 }

func (c *compiler) module() {
	c.skip(api.SymModule)
	c.name = c.ident()
	c.skip(api.SymSemicolon)
	if c.may(api.SymImport) {
		c.imports()
	}
	c.declarations(nil)
	c.entries[0] = c.pc()
	c.enter(0, 0)
	if c.may(api.SymBegin) {
		c.statements()
	}
	c.leave(0, 0)
	c.endName(c.name)
	c.ask(c.is(api.SymPeriod), errSymbol)
}

func (c *compiler) endName(name int) {
	c.skip(api.SymEndWord)
	c.ask(c.is(api.SymName) && c.sym.Id == name, errEndName)
	c.get()
}

func (c *compiler) imports() {
	for {
		c.ask(c.is(api.SymName), errSymbol)
		c.ask(c.sym.Id != c.name, errItself)
		n, code := c.scope.Import(c.sym.Id, c.file)
		c.ask(code == 0, code)
		c.ask(c.isWhole(c.scanner.Name(c.sym.Id)), errFace)
		c.modules = append(c.modules, n)
		c.get()
		if !c.may(api.SymComma) {
			break
		}
	}
	slices.Sort(c.modules)
	c.skip(api.SymSemicolon)
}

// isWhole: does what a module's face shows, and those that it names, name types that there are?
func (c *compiler) isWhole(name string) bool {
	if c.whole[name] != 0 {
		return true
	}
	c.whole[name] = 1
	f, ok := c.face(name)
	var named []api.Face
	for _, i := range f.Imports {
		g, there := c.face(i.Name)
		ok = ok && there && c.isWhole(i.Name)
		named = append(named, g)
	}
	there := func(r api.Ref) bool {
		if r.Module == 0 {
			return true
		}
		l := named[r.Module-1].Types
		i := r.Index - api.FirstType
		return i < len(l) && l[i].Form != api.FormOpen
	}
	for _, o := range f.Objects {
		ok = ok && there(o.Base)
		for _, p := range o.Params {
			ok = ok && there(p.Base)
		}
	}
	return ok
}

func (c *compiler) face(name string) (api.Face, bool) {
	b, ok := c.file(symfile.File(name))
	if !ok {
		return api.Face{}, false
	}
	f, _, e := symfile.Of(b)
	return f, e == api.OK
}

// declarations are those of a procedure, or of the module.
func (c *compiler) declarations(p *procedure) {
	if c.may(api.SymConst) {
		for c.is(api.SymName) {
			c.constant()
		}
	}
	if c.may(api.SymType) {
		c.inTypes, c.forwards = true, nil
		for c.is(api.SymName) {
			c.typeDeclaration()
		}
		c.ask(len(c.forwards) == 0, errUnknown)
		c.inTypes = false
	}
	if c.may(api.SymVar) {
		for c.is(api.SymName) {
			c.variables(p)
		}
	}
	jump := -1
	if p != nil && c.is(api.SymProcedure) {
		// Procedures within may call this one, whose body comes behind theirs.
		p.entry = c.pc()
		c.begins(p)
		jump = c.pc()
		c.branch(condT, 0)
	}
	for c.is(api.SymProcedure) {
		c.procedure()
		c.skip(api.SymSemicolon)
	}
	if jump >= 0 {
		c.fixJump(jump)
	} else if p != nil {
		p.entry = c.pc()
		c.begins(p)
	}
}

// begins tells where a procedure begins.
func (c *compiler) begins(p *procedure) {
	c.places[p.thing] = p.entry
	if x, _ := c.scope.Get(p.thing); x.Shown {
		c.entries[x.Value] = p.entry
	}
}

// nameDef is a name that is declared, and is it exported?
func (c *compiler) nameDef() (int, bool) {
	id := c.ident()
	if !c.is(api.SymTimes) {
		return id, false
	}
	c.ask(c.scope.Level() == 0, errShown)
	c.get()
	return id, true
}

func (c *compiler) declare(x api.Thing) int {
	n, code := c.scope.Declare(x)
	c.ask(code == 0, code)
	return n
}

func (c *compiler) constant() {
	id, shown := c.nameDef()
	c.skip(api.SymEqual)
	var x item
	c.expression(&x)
	c.ask(x.mode == modeConst && x.typ != api.TypeNil, errConst)
	c.declare(api.Thing{Class: api.ClassConst, Name: id, Type: x.typ, Value: int32(x.a), Shown: shown})
	c.skip(api.SymSemicolon)
}

func (c *compiler) typeDeclaration() {
	id, shown := c.nameDef()
	c.skip(api.SymEqual)
	t := c.typ()
	c.declare(api.Thing{Class: api.ClassType, Name: id, Type: t, Shown: shown})
	var rest []forward
	for _, f := range c.forwards {
		if f.name == id {
			c.ask(c.form(t) == api.FormRecord, errPointer)
			c.table.SetBase(f.pointer, t)
		} else {
			rest = append(rest, f)
		}
	}
	c.forwards = rest
	c.skip(api.SymSemicolon)
}

func (c *compiler) form(t int) api.Form {
	x, _ := c.table.Get(t)
	return x.Form
}

type named struct {
	id    int
	shown bool
}

func (c *compiler) variables(p *procedure) {
	var l []named
	for {
		id, shown := c.nameDef()
		c.ask(len(l) < api.MaxObjects, errThings)
		l = append(l, named{id, shown})
		if !c.may(api.SymComma) {
			break
		}
	}
	c.skip(api.SymColon)
	t := c.typ()
	for _, n := range l {
		c.declare(api.Thing{Class: api.ClassVar, Name: n.id, Type: t, Value: int32(c.allot(p, t)), Shown: n.shown})
	}
	c.skip(api.SymSemicolon)
}

// allot is the place of a variable of that type.
func (c *compiler) allot(p *procedure, t int) int {
	size := roundUp(c.table.Size(t))
	if p == nil {
		c.vars += size
		c.ask(c.vars <= api.MaxData, errData)
		return c.vars - size
	}
	p.bytes += size
	c.ask(p.bytes <= api.MaxFrame, errFrame)
	return linkBytes + wordBytes*p.words + p.bytes - size
}

// madeType tells a type's number, or stops for the error.
func (c *compiler) madeType(n, code int) int {
	c.ask(code == 0, code)
	return n
}

func (c *compiler) typ() int {
	c.deeper()
	t := 0
	switch c.sym.Sym {
	case api.SymName:
		t = c.typeName()
	case api.SymArray:
		c.get()
		var x item
		c.expression(&x)
		c.ask(x.mode == modeConst && x.typ == api.TypeInteger, errConst)
		c.ask(x.a >= 1 && x.a <= immMost, errSize)
		c.skip(api.SymOf)
		t = c.madeType(c.table.Array(x.a, c.typ()))
	case api.SymRecord:
		t = c.record()
	case api.SymPointer:
		t = c.pointer()
	default:
		c.stop(errSymbol)
	}
	c.depth--
	return t
}

// typeName is the type that a qualname stands for.
func (c *compiler) typeName() int {
	x, _ := c.qualname()
	c.ask(x.Class == api.ClassType, errClass)
	return x.Type
}

// qualname is what a name, or a module's one, stands for, and its number.
func (c *compiler) qualname() (api.Thing, int) {
	n, ok := c.scope.Find(c.sym.Id)
	c.ask(c.is(api.SymName), errSymbol)
	c.ask(ok, errUnknown)
	c.get()
	x, _ := c.scope.Get(n)
	if x.Class == api.ClassModule {
		c.skip(api.SymPeriod)
		c.ask(c.is(api.SymName), errSymbol)
		n, ok = c.scope.FindIn(x.Module, c.sym.Id)
		c.ask(ok, errUnknown)
		c.get()
		x, _ = c.scope.Get(n)
	}
	return x, n
}

func (c *compiler) record() int {
	c.get()
	r := c.madeType(c.table.Record())
	for {
		if c.is(api.SymName) {
			c.fields(r)
		}
		if !c.may(api.SymSemicolon) {
			break
		}
	}
	c.skip(api.SymEndWord)
	c.table.End(r)
	return r
}

func (c *compiler) fields(r int) {
	var l []int
	for {
		id := c.ident()
		c.ask(len(l) < maxGroup, errFields)
		l = append(l, id)
		if !c.may(api.SymComma) {
			break
		}
	}
	c.skip(api.SymColon)
	t := c.typ()
	for _, id := range l {
		code := c.table.Add(r, id, t)
		c.ask(code == 0, code)
	}
}

func (c *compiler) pointer() int {
	c.get()
	c.skip(api.SymTo)
	if c.is(api.SymName) && c.inTypes {
		if _, ok := c.scope.Find(c.sym.Id); !ok {
			p := c.madeType(c.table.Pointer(0))
			c.forwards = append(c.forwards, forward{c.sym.Id, p})
			c.get()
			return p
		}
	}
	base := c.typ()
	c.ask(c.form(base) == api.FormRecord, errPointer)
	return c.madeType(c.table.Pointer(base))
}

func (c *compiler) procedure() {
	c.deeper()
	c.get()
	id, shown := c.nameDef()
	x := api.Thing{Class: api.ClassProc, Name: id, Shown: shown}
	if shown {
		c.ask(len(c.entries) <= api.MaxEntries, errEntries)
		x.Value = int32(len(c.entries))
		c.entries = append(c.entries, 0)
	}
	p := &procedure{thing: c.declare(x)}
	x, _ = c.scope.Get(p.thing)
	c.scope.Open()
	if c.may(api.SymOpen) {
		if !c.is(api.SymClose) {
			c.params(p, &x)
			for c.may(api.SymSemicolon) {
				c.params(p, &x)
			}
		}
		c.skip(api.SymClose)
		if c.may(api.SymColon) {
			x.Type = c.typeName()
			c.ask(c.table.Scalar(x.Type), errScalar)
		}
	}
	c.scope.Set(p.thing, x)
	c.skip(api.SymSemicolon)
	c.declarations(p)
	c.body(p, x.Type)
	c.endName(id)
	c.scope.Close()
	c.depth--
}

// params declares parameters of one type.
func (c *compiler) params(p *procedure, x *api.Thing) {
	isVar := c.may(api.SymVar)
	var l []int
	for {
		id := c.ident()
		c.ask(len(l) < api.Registers, errRegisters)
		l = append(l, id)
		if !c.may(api.SymComma) {
			break
		}
	}
	c.skip(api.SymColon)
	t, words := 0, 1
	if c.may(api.SymArray) {
		c.skip(api.SymOf)
		t = c.madeType(c.table.Open(c.typeName()))
		words = 2
	} else {
		t = c.typeName()
	}
	y := api.Thing{Class: api.ClassPar, Type: t}
	if !isVar && c.table.Scalar(t) {
		y.Class = api.ClassVar
	}
	y.Fixed = !isVar && y.Class == api.ClassPar
	for _, id := range l {
		c.ask(p.words+words <= api.Registers, errRegisters)
		y.Name, y.Value = id, int32(linkBytes+wordBytes*p.words)
		c.declare(y)
		p.words += words
		x.Params = append(x.Params, api.Param{Var: isVar, Type: t})
	}
}

// body is a procedure's statements, and what it tells.
func (c *compiler) body(p *procedure, t int) {
	c.enter(p.words, p.bytes)
	if c.may(api.SymBegin) {
		c.statements()
	}
	c.ask(c.is(api.SymReturn) == (t != 0), errReturn)
	if c.may(api.SymReturn) {
		var x item
		c.expression(&x)
		c.ask(c.fits(t, &x), errUnfit)
		c.load(&x)
		if t == api.TypeByte {
			c.im(api.OpAnd, x.r, x.r, 255)
		}
		c.rh = 0
	}
	c.leave(p.words, p.bytes)
}
