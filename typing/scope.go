package typing

import (
	"selfsame/api"
)

const (
	openSize    = 8
	pointerSize = 4
	maxLength   = 65535
)

// typ is a type; two are the same just if they are one.
type typ struct {
	basic        int // the number of a basic one
	form         api.Form
	base         *typ
	length, size int
	fields       []field
	module       *known // the face that it comes from
	index        int
}

type field struct {
	name   string
	offset int
	typ    *typ
}

type param struct {
	isVar bool
	typ   *typ
}

// thing is what a name stands for.
type thing struct {
	class   api.Class
	name    string
	typ     *typ
	num     int32 // a constant's value, an offset, an entry
	level   int
	fixed   bool // a variable that is not to be written to
	params  []param
	exports map[string]*thing // of a module
}

// scope is names, and the scope around.
type scope struct {
	names map[string]*thing
	outer *scope
}

// forward is a pointer to what is declared later.
type forward struct {
	name    string
	pointer *typ
}

func newBasic(n int) *typ {
	t := &typ{basic: n, size: 4}
	switch n {
	case api.TypeBoolean, api.TypeChar, api.TypeByte:
		t.size = 1
	}
	return t
}

func roundUp(n int) int { return (n + 3) / 4 * 4 }

func (t *typ) scalar() bool { return t.basic > 0 || t.form == api.FormPointer }

func (t *typ) integer() bool { return t.basic == api.TypeInteger || t.basic == api.TypeByte }

func (t *typ) array() bool { return t.form == api.FormArray || t.form == api.FormOpen }

// fits: may a value of a type be put where another one is asked for?
func fits(to, from *typ) bool {
	switch {
	case to.basic == api.TypeNil || !to.scalar():
		return false
	case from.basic == api.TypeNil:
		return to.form == api.FormPointer
	}
	return to == from || to.integer() && from.integer()
}

// equals: may values of two types be held against each other? NIL is put into nothing of its own type, but is like itself.
func equals(a, b *typ) bool { return a == b && a.scalar() || fits(a, b) || fits(b, a) }

// find is what a name stands for; nil: nothing.
func (c *checker) find(name string) *thing {
	for s := c.scope; s != nil; s = s.outer {
		if t := s.names[name]; t != nil {
			return t
		}
	}
	return nil
}

func (c *checker) declare(t *thing) {
	c.ask(c.scope.names[t.name] == nil)
	t.level = c.level
	c.scope.names[t.name] = t
}

// must is what a name has to stand for.
func (c *checker) must(name string) *thing {
	t := c.find(name)
	c.ask(t != nil)
	return t
}

// exported is what a module exports under a name.
func (c *checker) exported(module *thing, name string) *thing {
	t := module.exports[name]
	c.ask(t != nil)
	return t
}

// named is what a NodeName, or a NodeField of a module's name, stands for; nil: it is part of a variable.
func (c *checker) named(n api.Node) *thing {
	switch {
	case n.Kind == api.NodeName:
		return c.must(n.Name)
	case n.Kind == api.NodeField && n.Kids[0].Kind == api.NodeName:
		if m := c.must(n.Kids[0].Name); m.class == api.ClassModule {
			return c.exported(m, n.Name)
		}
	}
	return nil
}

// decls declares what stands in a NodeDecls.
func (c *checker) decls(n api.Node) {
	c.types, c.inTypes = nil, false
	for _, k := range n.Kids {
		if k.Kind > api.NodeType {
			c.endTypes()
		}
		switch k.Kind {
		case api.NodeConst:
			x := c.expr(k.Kids[0])
			c.ask(x.constant && x.typ.basic != api.TypeNil)
			c.show(k, &thing{class: api.ClassConst, typ: x.typ, num: x.num})
		case api.NodeType:
			c.inTypes = true
			c.typeDecl(k)
		case api.NodeVar:
			c.variables(k)
		case api.NodeProc:
			c.procedure(k)
		}
	}
	c.endTypes()
}

// endTypes ends a TYPE part: all that pointers point to is declared.
func (c *checker) endTypes() {
	c.ask(len(c.types) == 0)
	c.inTypes = false
}

// show declares a thing, and exports it if it is marked.
func (c *checker) show(n api.Node, t *thing) {
	t.name = n.Name
	c.declare(t)
	if n.Mark {
		c.shown = append(c.shown, t)
	}
}

func (c *checker) typeDecl(n api.Node) {
	t := c.typ(n.Kids[0])
	c.show(n, &thing{class: api.ClassType, typ: t})
	var rest []forward
	for _, f := range c.types {
		if f.name != n.Name {
			rest = append(rest, f)
			continue
		}
		c.ask(t.form == api.FormRecord)
		f.pointer.base = t
	}
	c.types = rest
}

func (c *checker) variables(n api.Node) {
	last := len(n.Kids) - 1
	t := c.typ(n.Kids[last])
	for _, k := range n.Kids[:last] {
		c.show(k, &thing{class: api.ClassVar, typ: t, num: int32(c.place)})
		if c.level == 0 {
			c.place += roundUp(t.size)
		}
	}
}

// qualname is the type that a qualname stands for.
func (c *checker) qualname(n api.Node) *typ {
	t := c.must(n.Name)
	if n.Kind == api.NodeQual {
		c.ask(t.class == api.ClassModule)
		t = c.exported(t, n.Kids[0].Name)
	}
	c.ask(t.class == api.ClassType)
	return t.typ
}

func (c *checker) typ(n api.Node) *typ {
	switch n.Kind {
	case api.NodeArray:
		x := c.expr(n.Kids[0])
		c.ask(x.constant && x.typ.basic == api.TypeInteger && x.num >= 1 && x.num <= maxLength)
		base := c.typ(n.Kids[1])
		size := roundUp(int(x.num) * base.size)
		c.ask(size <= api.MaxSize)
		return &typ{form: api.FormArray, base: base, length: int(x.num), size: size}
	case api.NodeRecord:
		return c.record(n)
	case api.NodePointer:
		return c.pointer(n.Kids[0])
	}
	return c.qualname(n)
}

func (c *checker) record(n api.Node) *typ {
	r := &typ{form: api.FormRecord}
	for _, k := range n.Kids {
		last := len(k.Kids) - 1
		t := c.typ(k.Kids[last])
		for _, name := range k.Kids[:last] {
			_, twice := r.field(name.Name)
			at := r.size
			if t.size > 1 {
				at = roundUp(at)
			}
			c.ask(!twice && at+t.size <= api.MaxSize)
			r.fields = append(r.fields, field{name.Name, at, t})
			r.size = at + t.size
		}
	}
	r.size = max(roundUp(r.size), 4)
	return r
}

func (t *typ) field(name string) (field, bool) {
	for _, f := range t.fields {
		if f.name == name {
			return f, true
		}
	}
	return field{}, false
}

func (c *checker) pointer(n api.Node) *typ {
	p := &typ{form: api.FormPointer, size: pointerSize}
	if n.Kind == api.NodeName && c.inTypes && c.find(n.Name) == nil {
		c.types = append(c.types, forward{n.Name, p})
		return p
	}
	p.base = c.typ(n)
	c.ask(p.base.form == api.FormRecord)
	return p
}

func (c *checker) procedure(n api.Node) {
	p := &thing{class: api.ClassProc}
	c.show(n, p)
	if n.Mark {
		c.entries++
		p.num = int32(c.entries)
	}
	c.scope = &scope{names: map[string]*thing{}, outer: c.scope}
	c.level++
	for _, k := range n.Kids[0].Kids {
		c.params(k, p)
	}
	if n.Kids[1].Kind != api.NodeNone {
		t := c.qualname(n.Kids[1])
		c.ask(t.scalar())
		p.typ = t
	}
	c.decls(n.Kids[2])
	c.stmts(n.Kids[3])
	told := n.Kids[4]
	c.ask((told.Kind != api.NodeNone) == (p.typ != nil))
	if p.typ != nil {
		c.ask(fits(p.typ, c.expr(told).typ))
	}
	c.level--
	c.scope = c.scope.outer
}

// params declares parameters of one type.
func (c *checker) params(n api.Node, p *thing) {
	last := len(n.Kids) - 1
	var t *typ
	if k := n.Kids[last]; k.Kind == api.NodeOpen {
		t = &typ{form: api.FormOpen, base: c.qualname(k.Kids[0]), size: openSize}
	} else {
		t = c.qualname(k)
	}
	for _, k := range n.Kids[:last] {
		c.declare(&thing{class: api.ClassVar, name: k.Name, typ: t, fixed: !n.Mark && !t.scalar()})
		p.params = append(p.params, param{n.Mark, t})
	}
}

// face is what the module shows.
func (c *checker) face(name string) api.Face {
	f := api.Face{Name: name}
	places, imports := map[*typ]int{}, map[*known]int{}
	var ref func(*typ) api.Ref
	ref = func(t *typ) api.Ref {
		switch {
		case t == nil:
			return api.Ref{}
		case t.basic > 0:
			return api.Ref{Index: t.basic}
		case t.module != nil:
			if imports[t.module] == 0 {
				f.Imports = append(f.Imports, api.Import{Name: t.module.face.Name, Key: t.module.key})
				imports[t.module] = len(f.Imports)
			}
			return api.Ref{Module: imports[t.module], Index: api.FirstType + t.index}
		}
		if places[t] == 0 {
			place := len(f.Types)
			places[t] = api.FirstType + place
			f.Types = append(f.Types, api.FaceType{Form: t.form, Length: t.length})
			x := t.faceType(ref)
			f.Types[place] = x
		}
		return api.Ref{Index: places[t]}
	}
	for _, t := range c.shown {
		o := api.FaceObject{Class: t.class, Name: t.name, Base: ref(t.typ), Value: uint32(t.num)}
		for _, p := range t.params {
			o.Params = append(o.Params, api.FaceParam{Var: p.isVar, Base: ref(p.typ)})
		}
		f.Objects = append(f.Objects, o)
	}
	return f
}

func (t *typ) faceType(ref func(*typ) api.Ref) api.FaceType {
	x := api.FaceType{Form: t.form, Length: t.length, Base: ref(t.base)}
	if t.form == api.FormArray || t.form == api.FormRecord {
		x.Size = t.size
	}
	for _, f := range t.fields {
		x.Fields = append(x.Fields, api.FaceField{Name: f.name, Offset: f.offset, Base: ref(f.typ)})
	}
	return x
}
