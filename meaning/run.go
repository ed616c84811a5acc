package meaning

import (
	"selfsame/api"
	"selfsame/store"
	"selfsame/value"
	"selfsame/word"
)

// ending ends a program.
type ending struct {
	stop api.Stop
	fuel bool
}

// statement does one.
type statement func(*machine, *node, []*value.Var)

// machine is a program that runs; what a procedure's names stand for are variables in a list of its own.
type machine struct {
	store  *store.Store
	fuel   int
	steps  int
	calls  int // that are open
	stack  int // bytes of variables of procedures that are open
	heap   int // bytes that NEW made
	bodies []*node
	last   *scope
	do     map[api.NodeKind]statement
}

func statements() map[api.NodeKind]statement {
	return map[api.NodeKind]statement{
		api.NodeAssign: (*machine).assign,
		api.NodeCall:   (*machine).callStatement,
		api.NodeIf:     (*machine).ifStatement,
		api.NodeWhile:  (*machine).whileStatement,
		api.NodeRepeat: (*machine).repeatStatement,
	}
}

// run runs all modules: how they ended.
func (m *machine) run() (end api.End) {
	defer func() {
		if r := recover(); r != nil {
			e, ok := r.(ending)
			if !ok {
				panic(r)
			}
			end = api.End{Stop: e.stop, Fuel: e.fuel, Steps: m.steps}
		}
	}()
	for _, b := range m.bodies {
		m.statements(b, nil)
	}
	return api.End{Stop: api.Stop{Kind: api.StopHalt}, Steps: m.steps}
}

func (m *machine) end(kind api.StopKind, code uint32) {
	panic(ending{stop: api.Stop{Kind: kind, Code: code}})
}

func (m *machine) trap(ok bool, code uint32) {
	if !ok {
		m.end(api.StopTrap, code)
	}
}

// begin counts a step.
func (m *machine) begin() {
	if m.steps >= m.fuel {
		panic(ending{fuel: true})
	}
	m.steps++
}

func (m *machine) statements(n *node, f []*value.Var) {
	for _, k := range n.kids {
		m.begin()
		m.do[k.kind](m, k, f)
	}
}

func (m *machine) assign(n *node, f []*value.Var) {
	v := m.variable(n.kids[0], f)
	v.Set(m.eval(n.kids[1], f))
}

func (m *machine) holds(n *node, f []*value.Var) bool { return m.eval(n, f).Word != 0 }

func (m *machine) ifStatement(n *node, f []*value.Var) {
	for i := 0; i < len(n.kids); i += 2 {
		if i == len(n.kids)-1 {
			m.statements(n.kids[i], f)
		} else if m.holds(n.kids[i], f) {
			m.statements(n.kids[i+1], f)
			return
		}
	}
}

func (m *machine) whileStatement(n *node, f []*value.Var) {
	for {
		m.begin()
		if !m.holds(n.kids[0], f) {
			return
		}
		m.statements(n.kids[1], f)
	}
}

func (m *machine) repeatStatement(n *node, f []*value.Var) {
	for {
		m.statements(n.kids[0], f)
		m.begin()
		if m.holds(n.kids[1], f) {
			return
		}
	}
}

func (m *machine) callStatement(n *node, f []*value.Var) {
	if n.to.class == api.ClassProc {
		m.call(n, f)
	} else {
		m.standard(n, f)
	}
}

// call calls a procedure: what it tells.
func (m *machine) call(n *node, f []*value.Var) value.Value {
	p := n.to.proc
	var own []*value.Var
	for i, x := range p.params {
		own = append(own, m.argument(x, n.kids[i], f))
	}
	m.calls++
	m.stack += p.bytes
	if m.calls > api.MaxCalls || m.stack > api.MaxHeap {
		m.end(api.StopStack, 0)
	}
	for _, t := range p.locals {
		v, _ := value.New(t)
		own = append(own, v)
	}
	m.statements(p.body, own)
	var x value.Value
	if p.told != nil {
		x = m.eval(p.told, own)
		if p.typ.Kind() != api.KindPointer {
			x.Word = value.Fit(p.typ, x.Word)
		}
	}
	m.calls--
	m.stack -= p.bytes
	return x
}

func (m *machine) argument(p param, n *node, f []*value.Var) *value.Var {
	if p.open {
		return m.array(n, f)
	}
	if p.shared {
		return m.variable(n, f)
	}
	v, _ := value.New(p.typ)
	v.Set(m.eval(n, f))
	return v
}

// array is what is handed in as an open array: a variable, or a string with a byte 0 more.
func (m *machine) array(n *node, f []*value.Var) *value.Var {
	if n.kind != api.NodeString {
		return m.variable(n, f)
	}
	t, _ := value.Array(len(n.name)+1, n.typ)
	v, _ := value.New(t)
	for i := range len(n.name) {
		c, _ := v.Elem(i)
		c.Set(value.Value{Word: uint32(n.name[i])})
	}
	return v
}

// variable is what a designator stands for, with its traps.
func (m *machine) variable(n *node, f []*value.Var) *value.Var {
	switch n.kind {
	case api.NodeIndex:
		v := m.variable(n.kids[0], f)
		i := m.eval(n.kids[1], f).Word
		x, e := v.Elem(int(int32(i)))
		m.trap(e == api.OK, api.TrapIndex)
		return x
	case api.NodeField:
		x, _ := m.variable(n.kids[0], f).Field(n.name)
		return x
	case api.NodeDeref:
		p, _ := m.variable(n.kids[0], f).Get()
		m.trap(p.To != nil, api.TrapNil)
		return p.To
	}
	if n.to.variable != nil {
		return n.to.variable
	}
	return f[n.to.slot]
}

func number(w uint32) value.Value { return value.Value{Word: w} }

func truth(b bool) value.Value {
	if b {
		return number(1)
	}
	return number(0)
}

// eval reckons an expression.
func (m *machine) eval(n *node, f []*value.Var) value.Value {
	switch n.kind {
	case api.NodeNumber, api.NodeChar, api.NodeString, api.NodeNil, api.NodeTrue, api.NodeFalse:
		return number(n.word)
	case api.NodeSet:
		var s uint32
		for _, k := range n.kids {
			s |= word.Left(1, m.eval(k, f).Word)
		}
		return number(s)
	case api.NodeNot:
		return truth(!m.holds(n.kids[0], f))
	case api.NodeSign:
		x := m.eval(n.kids[0], f)
		if n.name == "-" {
			x.Word = -x.Word
		}
		return x
	case api.NodeOp:
		return m.operation(n, f)
	case api.NodeCall:
		return m.callFunction(n, f)
	}
	x, _ := m.variable(n, f).Get()
	return x
}

func (m *machine) operation(n *node, f []*value.Var) value.Value {
	x := m.eval(n.kids[0], f)
	if n.name == "&" && x.Word == 0 || n.name == "OR" && x.Word != 0 {
		return x
	}
	y := m.eval(n.kids[1], f)
	a, b := x.Word, y.Word
	switch n.name {
	case "&", "OR":
		return y
	case "=":
		return truth(x == y)
	case "#":
		return truth(x != y)
	case "<":
		return truth(word.Less(a, b))
	case "<=":
		return truth(!word.Less(b, a))
	case ">":
		return truth(word.Less(b, a))
	case ">=":
		return truth(!word.Less(a, b))
	case "IN":
		return number(b >> (a & 31) & 1)
	}
	if n.typ.Kind() == api.TypeSet {
		return number(sets(n.name, a, b))
	}
	return number(m.numbers(n.name, a, b))
}

func sets(op string, a, b uint32) uint32 {
	switch op {
	case "+":
		return a | b
	case "-":
		return a &^ b
	case "*":
		return a & b
	}
	return a ^ b
}

func (m *machine) numbers(op string, a, b uint32) uint32 {
	switch op {
	case "+":
		return a + b
	case "-":
		return a - b
	case "*":
		return a * b
	}
	q, r, e := word.Div(a, b)
	m.trap(e == api.OK, api.TrapDiv)
	if op == "DIV" {
		return q
	}
	return r
}

// callFunction is a call in an expression, which is a step, too.
func (m *machine) callFunction(n *node, f []*value.Var) value.Value {
	if m.store != nil { // a constant is reckoned ahead of all running
		m.begin()
	}
	if n.to.class == api.ClassProc {
		return m.call(n, f)
	}
	return number(m.function(n, f))
}

// function is what a predeclared procedure tells.
func (m *machine) function(n *node, f []*value.Var) uint32 {
	switch n.name {
	case "LEN":
		return uint32(m.variable(n.kids[0], f).Type().Len())
	case "OLD":
		return uint32(m.store.Old(m.text(n.kids[0], f)))
	case "FRESH":
		return uint32(m.store.Fresh(m.text(n.kids[0], f)))
	}
	x := m.eval(n.kids[0], f).Word
	switch n.name {
	case "ABS":
		if word.Less(x, 0) {
			return -x
		}
	case "ODD":
		return x & 1
	case "CHR":
		return x & 255
	case "LSL":
		return word.Left(x, m.eval(n.kids[1], f).Word)
	case "ASR":
		return word.Right(x, m.eval(n.kids[1], f).Word)
	case "EOF":
		return truth(m.store.EOF(rider(x))).Word
	case "LENGTH":
		return uint32(m.store.Length(rider(x)))
	}
	return x // ORD, too
}

func rider(w uint32) int { return int(int32(w)) }

// text is a name: up to the first byte 0.
func (m *machine) text(n *node, f []*value.Var) string {
	v := m.array(n, f)
	var b []byte
	for i := range v.Type().Len() {
		c, _ := v.Elem(i)
		x, _ := c.Get()
		if x.Word == 0 {
			break
		}
		b = append(b, byte(x.Word))
	}
	return string(b)
}

// standard does a predeclared procedure that is a statement.
func (m *machine) standard(n *node, f []*value.Var) {
	switch n.name {
	case "INC", "DEC":
		m.increase(n, f)
	case "NEW":
		m.allot(m.variable(n.kids[0], f))
	case "ASSERT":
		m.trap(m.holds(n.kids[0], f), api.TrapAssert)
	case "HALT":
		m.end(api.StopHalt, m.eval(n.kids[0], f).Word)
	case "DELETE":
		m.store.Delete(m.text(n.kids[0], f))
	default:
		m.file(n, f)
	}
}

func (m *machine) increase(n *node, f []*value.Var) {
	v := m.variable(n.kids[0], f)
	by := uint32(1)
	if len(n.kids) > 1 {
		by = m.eval(n.kids[1], f).Word
	}
	if n.name == "DEC" {
		by = -by
	}
	x, _ := v.Get()
	v.Set(number(x.Word + by))
}

func (m *machine) allot(p *value.Var) {
	v, _ := value.New(p.Type().Base())
	m.heap += v.Type().Size()
	if m.heap > api.MaxHeap {
		m.end(api.StopHeap, 0)
	}
	p.Set(value.Value{To: v})
}

func (m *machine) stored(e api.Errno) {
	if e != api.OK {
		m.end(api.StopStore, 0)
	}
}

// file does what a rider does.
func (m *machine) file(n *node, f []*value.Var) {
	r := rider(m.eval(n.kids[0], f).Word)
	switch n.name {
	case "READ":
		v := m.variable(n.kids[1], f)
		v.Set(number(uint32(m.store.Read(r))))
	case "READW":
		v := m.variable(n.kids[1], f)
		v.Set(number(m.store.ReadWord(r)))
	case "WRITE":
		m.stored(m.store.Write(r, byte(m.eval(n.kids[1], f).Word)))
	case "WRITEW":
		m.stored(m.store.WriteWord(r, m.eval(n.kids[1], f).Word))
	case "SEEK":
		m.store.Seek(r, m.eval(n.kids[1], f).Word)
	case "REGISTER":
		m.stored(m.store.Register(r))
	}
}
