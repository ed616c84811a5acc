package meaning

import (
	"strings"

	"selfsame/api"
	"selfsame/value"
)

const (
	basicTypes = "INTEGER BOOLEAN CHAR BYTE SET"
	standard   = "ABS ODD ORD CHR LSL ASR LEN OLD FRESH EOF LENGTH INC DEC NEW ASSERT HALT READ WRITE READW WRITEW SEEK REGISTER DELETE"
)

// node is a part of a program whose names are bound to what they stand for.
type node struct {
	kind api.NodeKind
	name string
	word uint32 // a constant's value
	kids []*node
	typ  *value.Type // of an expression; nil: NIL's
	to   *thing
}

// thing is what a name stands for.
type thing struct {
	class    api.Class
	name     string
	typ      *value.Type // of an open array one of some array of its elements
	word     uint32
	variable *value.Var // a module's
	slot     int        // a procedure's variable
	proc     *procedure
	exports  *scope
}

// procedure is one that may be called.
type procedure struct {
	params []param
	locals []*value.Type // behind the parameters
	bytes  int           // of the variables
	body   *node
	told   *node
	typ    *value.Type
}

type param struct {
	shared bool // what is handed in is the variable itself
	open   bool
	typ    *value.Type
}

// scope is names, and the scope around.
type scope struct {
	names map[string]*thing
	outer *scope
}

type forward struct {
	name    string
	pointer *value.Type
}

// binder binds names; the modules have meaning (layer 17).
type binder struct {
	outer    *scope
	own      *scope
	scope    *scope
	modules  map[string]*scope
	basic    [api.TypeNil]*value.Type
	proc     *procedure // nil: the module
	forwards []forward
	inTypes  bool
	bodies   []*node
	bytes    int
}

func newScope(outer *scope) *scope { return &scope{names: map[string]*thing{}, outer: outer} }

func newBinder() *binder {
	b := &binder{outer: newScope(nil), modules: map[string]*scope{}}
	for i, name := range strings.Fields(basicTypes) {
		b.basic[i+1], _ = value.Basic(i + 1)
		b.outer.names[name] = &thing{class: api.ClassType, typ: b.basic[i+1]}
	}
	for _, name := range strings.Fields(standard) {
		b.outer.names[name] = &thing{class: api.ClassStd, name: name}
	}
	return b
}

func (b *binder) find(name string) *thing {
	for s := b.scope; s != nil; s = s.outer {
		if t := s.names[name]; t != nil {
			return t
		}
	}
	return nil
}

func (b *binder) declare(name string, t *thing) {
	t.name = name
	b.scope.names[name] = t
}

func (b *binder) module(n api.Node) {
	b.own = newScope(b.outer)
	b.scope = b.own
	b.modules[n.Name] = b.own
	for _, i := range n.Kids[0].Kids {
		b.declare(i.Name, &thing{class: api.ClassModule, exports: b.modules[i.Name]})
	}
	b.decls(n.Kids[1])
	b.bodies = append(b.bodies, b.stmts(n.Kids[2]))
}

func (b *binder) decls(n api.Node) {
	b.forwards = nil
	for _, k := range n.Kids {
		b.inTypes = k.Kind == api.NodeType
		switch k.Kind {
		case api.NodeConst:
			x := b.expr(k.Kids[0])
			b.declare(k.Name, &thing{class: api.ClassConst, typ: x.typ, word: (&machine{}).eval(x, nil).Word})
		case api.NodeType:
			b.typeDecl(k)
		case api.NodeVar:
			b.variables(k)
		case api.NodeProc:
			b.procedure(k)
		}
	}
	b.inTypes = false
}

func (b *binder) typeDecl(n api.Node) {
	t := b.typ(n.Kids[0])
	b.declare(n.Name, &thing{class: api.ClassType, typ: t})
	for _, f := range b.forwards {
		if f.name == n.Name {
			f.pointer.Point(t)
		}
	}
}

func roundUp(n int) int { return (n + 3) / 4 * 4 }

func (b *binder) variables(n api.Node) {
	last := len(n.Kids) - 1
	t := b.typ(n.Kids[last])
	for _, k := range n.Kids[:last] {
		x := &thing{class: api.ClassVar, typ: t}
		if b.proc == nil {
			x.variable, _ = value.New(t)
			b.bytes += roundUp(t.Size())
		} else {
			x.slot = len(b.proc.params) + len(b.proc.locals)
			b.proc.locals = append(b.proc.locals, t)
			b.proc.bytes += roundUp(t.Size())
		}
		b.declare(k.Name, x)
	}
}

func (b *binder) qualname(n api.Node) *value.Type {
	t := b.find(n.Name)
	if n.Kind == api.NodeQual {
		t = t.exports.names[n.Kids[0].Name]
	}
	return t.typ
}

func (b *binder) typ(n api.Node) *value.Type {
	switch n.Kind {
	case api.NodeArray:
		length := (&machine{}).eval(b.expr(n.Kids[0]), nil).Word
		t, _ := value.Array(int(length), b.typ(n.Kids[1]))
		return t
	case api.NodeRecord:
		var names []string
		var bases []*value.Type
		for _, k := range n.Kids {
			last := len(k.Kids) - 1
			t := b.typ(k.Kids[last])
			for _, f := range k.Kids[:last] {
				names, bases = append(names, f.Name), append(bases, t)
			}
		}
		t, _ := value.Record(names, bases)
		return t
	case api.NodePointer:
		p := value.Pointer()
		if k := n.Kids[0]; k.Kind == api.NodeName && b.inTypes && b.find(k.Name) == nil {
			b.forwards = append(b.forwards, forward{k.Name, p})
		} else {
			p.Point(b.typ(k))
		}
		return p
	}
	return b.qualname(n)
}

func (b *binder) procedure(n api.Node) {
	p := &procedure{}
	b.declare(n.Name, &thing{class: api.ClassProc, proc: p})
	around := b.proc
	b.proc = p
	b.scope = newScope(b.scope)
	for _, k := range n.Kids[0].Kids {
		b.params(k, p)
	}
	if n.Kids[1].Kind != api.NodeNone {
		p.typ = b.qualname(n.Kids[1])
	}
	b.decls(n.Kids[2])
	p.body = b.stmts(n.Kids[3])
	if n.Kids[4].Kind != api.NodeNone {
		p.told = b.expr(n.Kids[4])
	}
	b.scope = b.scope.outer
	b.proc = around
}

func (b *binder) params(n api.Node, p *procedure) {
	last := len(n.Kids) - 1
	x := param{open: n.Kids[last].Kind == api.NodeOpen}
	if x.open {
		x.typ, _ = value.Array(1, b.qualname(n.Kids[last].Kids[0]))
	} else {
		x.typ = b.qualname(n.Kids[last])
	}
	x.shared = n.Mark || !x.typ.Scalar()
	for _, k := range n.Kids[:last] {
		b.declare(k.Name, &thing{class: api.ClassVar, typ: x.typ, slot: len(p.params)})
		p.params = append(p.params, x)
	}
}

func (b *binder) stmts(n api.Node) *node {
	x := &node{kind: n.Kind}
	for _, k := range n.Kids {
		x.kids = append(x.kids, b.stmt(k))
	}
	return x
}

// stmt is a statement, or part of one.
func (b *binder) stmt(n api.Node) *node {
	switch n.Kind {
	case api.NodeStmts:
		return b.stmts(n)
	case api.NodeIf, api.NodeWhile, api.NodeRepeat:
		return b.stmts(n)
	case api.NodeAssign:
		return &node{kind: n.Kind, kids: []*node{b.expr(n.Kids[0]), b.expr(n.Kids[1])}}
	case api.NodeCall:
		return b.call(n)
	}
	return b.expr(n)
}

// named is what a NodeName, or a NodeField of a module's name, stands for; nil: it is part of a variable.
func (b *binder) named(n api.Node) *thing {
	switch {
	case n.Kind == api.NodeName:
		return b.find(n.Name)
	case n.Kind == api.NodeField && n.Kids[0].Kind == api.NodeName:
		if m := b.find(n.Kids[0].Name); m.class == api.ClassModule {
			return m.exports.names[n.Name]
		}
	}
	return nil
}

func (b *binder) expr(n api.Node) *node {
	x := &node{kind: n.Kind, name: n.Name, word: n.Value}
	switch n.Kind {
	case api.NodeNumber:
		x.typ = b.basic[api.TypeInteger]
	case api.NodeChar:
		x.typ = b.basic[api.TypeChar]
	case api.NodeString:
		x.typ = b.basic[api.TypeChar]
		if len(n.Name) == 1 {
			x.word = uint32(n.Name[0])
		}
	case api.NodeTrue:
		x.typ, x.word = b.basic[api.TypeBoolean], 1
	case api.NodeFalse:
		x.typ = b.basic[api.TypeBoolean]
	case api.NodeNil:
	case api.NodeCall:
		return b.call(n)
	case api.NodeParen:
		return b.expr(n.Kids[0])
	case api.NodeName, api.NodeField, api.NodeIndex, api.NodeDeref:
		return b.designator(n)
	default:
		b.operation(n, x)
	}
	return x
}

// operation binds what has expressions below it.
func (b *binder) operation(n api.Node, x *node) {
	for _, k := range n.Kids {
		x.kids = append(x.kids, b.expr(k))
	}
	switch n.Kind {
	case api.NodeSet:
		x.typ = b.basic[api.TypeSet]
	case api.NodeSign:
		x.typ = b.basic[api.TypeInteger]
	case api.NodeOp:
		switch n.Name {
		case "=", "#", "<", "<=", ">", ">=", "IN":
			x.typ = b.basic[api.TypeBoolean]
		default:
			x.typ = x.kids[0].typ
			if x.typ.Kind() == api.TypeByte {
				x.typ = b.basic[api.TypeInteger]
			}
		}
	default:
		x.typ = x.kids[0].typ
	}
}

func (b *binder) designator(n api.Node) *node {
	if t := b.named(n); t != nil {
		if t.class == api.ClassConst {
			return &node{kind: api.NodeNumber, word: t.word, typ: t.typ}
		}
		return &node{kind: api.NodeName, to: t, typ: t.typ}
	}
	v := b.designator(n.Kids[0])
	x := &node{kind: n.Kind, name: n.Name, kids: []*node{v}}
	switch n.Kind {
	case api.NodeIndex:
		x.kids = append(x.kids, b.expr(n.Kids[1]))
		x.typ = v.typ.Base()
	case api.NodeDeref:
		x.typ = v.typ.Base()
	case api.NodeField:
		if v.typ.Kind() == api.KindPointer {
			x.kids[0] = &node{kind: api.NodeDeref, kids: []*node{v}, typ: v.typ.Base()}
		}
		for name, t := range x.kids[0].typ.Fields() {
			if name == n.Name {
				x.typ = t
			}
		}
	}
	return x
}

// call binds a call; what a predeclared procedure tells has a type of its own.
func (b *binder) call(n api.Node) *node {
	x := &node{kind: n.Kind, to: b.named(n.Kids[0])}
	for _, k := range n.Kids[1:] {
		x.kids = append(x.kids, b.expr(k))
	}
	if x.to.class == api.ClassProc {
		x.typ = x.to.proc.typ
		return x
	}
	x.name = x.to.name
	switch x.name {
	case "ODD", "EOF":
		x.typ = b.basic[api.TypeBoolean]
	case "CHR":
		x.typ = b.basic[api.TypeChar]
	default:
		x.typ = b.basic[api.TypeInteger]
	}
	return x
}
