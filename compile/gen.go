package compile

import (
	"selfsame/api"
	"selfsame/isa"
	"selfsame/types"
)

// Registers that have a task of their own.
const (
	scratch = 12
	stack   = 14
	link    = 15
)

// Conditions.
const (
	condMI = 0
	condEQ = 1
	condLE = 6
	condT  = 7
	condNE = 9
	condCC = 10
	condGE = 13
)

const (
	jumpMask   = 1<<24 - 1
	unrolled   = 8 // so many words are made noughts one by one
	fewPushed  = 2 // so many registers are pushed and popped on the spot
	immLeast   = -65536
	immMost    = 65535
	wordBytes  = 4
	linkBytes  = 4
	switchCond = 8 // what makes of a condition the other one
)

type mode int

// Where an item's value is.
const (
	modeConst  mode = iota // a is it
	modeLocal              // in the frame, at a
	modeGlobal             // in the data of the module r, at a
	modePar                // in the frame, at a, stands an address; b on from there
	modeInd                // the register r has an address; a on from there
	modeReg                // in the register r
	modeCond               // the condition r holds; a: jumps that were made where not, b: where it does
)

// item is what an expression, or a variable, has come to.
type item struct {
	mode    mode
	typ     int
	a, b, r int
	fixed   bool // it is not to be written to
}

// gen makes code.
type gen struct {
	table  *types.Table
	mark   func(int) // does not come back
	code   []uint32
	fixups []api.Fixup
	rh     int                    // registers below it are in use
	frame  int                    // bytes that were pushed on the stack since the procedure began
	pushes [api.Registers + 1]int // where so many registers are pushed, for all to call; 0: nowhere as yet
	pops   [api.Registers + 1]int
}

func wrap(n int) int { return int(int32(n)) }

func small(n int) bool { return immLeast <= n && n <= immMost }

func (g *gen) pc() int { return len(g.code) }

func (g *gen) put(i api.Ins) {
	if g.pc() >= api.MaxCode {
		g.mark(errCode)
	}
	w, _ := isa.Word(i)
	g.code = append(g.code, w)
}

func (g *gen) reg(op, a, b, c int) { g.put(api.Ins{Form: api.FormReg, Op: op, A: a, B: b, C: c}) }

func (g *gen) im(op, a, b, n int) {
	g.put(api.Ins{Form: api.FormIm, Op: op, A: a, B: b, V: n < 0, Im: n & 0xffff})
}

func (g *gen) upper(a, n int) { g.put(api.Ins{Form: api.FormIm, U: true, A: a, Im: n & 0xffff}) }

func (g *gen) load32(a, b, off int) { g.put(api.Ins{Form: api.FormLoad, A: a, B: b, Off: off}) }

func (g *gen) store32(a, b, off int) { g.put(api.Ins{Form: api.FormStore, A: a, B: b, Off: off}) }

func (g *gen) sys(n int) { g.trap(condT, n) }

func (g *gen) trap(cond, n int) { g.put(api.Ins{Form: api.FormSys, Cond: cond, N: n}) }

// branch jumps; off is the way, or the place of another jump that goes the same way.
func (g *gen) branch(cond, off int) { g.put(api.Ins{Form: api.FormJump, Cond: cond, Off: off}) }

func (g *gen) call(off int) { g.put(api.Ins{Form: api.FormJump, V: true, Cond: condT, Off: off}) }

// fixup has the next word filled in by the loader.
func (g *gen) fixup(module, entry int) {
	if len(g.fixups) >= api.MaxFixups {
		g.mark(errFixups)
	}
	g.fixups = append(g.fixups, api.Fixup{At: g.pc(), Module: module, Entry: entry})
}

// take takes the next register.
func (g *gen) take() int {
	if g.rh >= api.Registers {
		g.mark(errRegisters)
	}
	g.rh++
	return g.rh - 1
}

func (g *gen) loadConst(r, n int) {
	if small(n) {
		g.im(api.OpMov, r, 0, n)
		return
	}
	g.upper(r, n>>16)
	if n&0xffff != 0 {
		g.im(api.OpIor, r, r, n&0xffff)
	}
}

// withConst does an operation of a register and a number.
func (g *gen) withConst(op, a, b, n int) {
	if small(n) {
		g.im(op, a, b, n)
		return
	}
	g.loadConst(scratch, n)
	g.reg(op, a, b, scratch)
}

// dataPlace loads where a module's data begin.
func (g *gen) dataPlace(r, module int) {
	g.fixup(module, 0)
	g.upper(r, 0)
	g.im(api.OpIor, r, r, 0)
}

func (g *gen) move(x *item, store bool, a, b, off int) {
	form := api.FormLoad
	if store {
		form = api.FormStore
	}
	g.put(api.Ins{Form: form, V: g.table.Size(x.typ) == 1, A: a, B: b, Off: off})
}

// base is the register, and the way from there, at which a variable stands; spare may be used for it.
func (g *gen) base(x *item, spare int) (int, int) {
	switch x.mode {
	case modeLocal:
		return stack, x.a + g.frame
	case modeGlobal:
		g.dataPlace(spare, x.r)
		return spare, x.a
	case modePar:
		g.load32(spare, stack, x.a+g.frame)
		return spare, x.b
	}
	return x.r, x.a
}

// fetch loads a variable's value into a register.
func (g *gen) fetch(x *item, r int) {
	b, off := g.base(x, r)
	g.move(x, false, r, b, off)
}

// load lets an item's value stand in a register, the last one that is in use.
func (g *gen) load(x *item) {
	switch x.mode {
	case modeReg:
		return
	case modeConst:
		n := x.a
		x.r = g.take()
		g.loadConst(x.r, n)
	case modeCond:
		g.loadTruth(x)
	case modeInd:
		g.fetch(x, x.r)
	default:
		r := g.take()
		g.fetch(x, r)
		x.r = r
	}
	x.mode = modeReg
}

func (g *gen) loadTruth(x *item) {
	g.branch(x.r^switchCond, 2)
	g.fixLink(x.b)
	x.r = g.take()
	g.im(api.OpMov, x.r, 0, 1)
	g.branch(condT, 1)
	g.fixLink(x.a)
	g.im(api.OpMov, x.r, 0, 0)
}

// loadCond makes of a BOOLEAN a condition.
func (g *gen) loadCond(x *item) {
	switch x.mode {
	case modeCond:
		return
	case modeConst:
		x.r = condT
		if x.a == 0 {
			x.r ^= switchCond
		}
	default:
		flags := x.mode != modeReg // what was loaded just now told the flags
		g.load(x)
		if !flags {
			g.im(api.OpSub, x.r, x.r, 0)
		}
		g.rh--
		x.r = condNE
	}
	x.mode, x.a, x.b = modeCond, 0, 0
}

// address lets a variable's address stand in a register.
func (g *gen) address(x *item) {
	r := x.r
	if x.mode != modeInd {
		r = g.take()
	}
	b, off := g.base(x, r)
	if b != r || off != 0 {
		g.withConst(api.OpAdd, r, b, off)
	}
	x.mode, x.r = modeReg, r
}

// store lets a value stand in a variable.
func (g *gen) store(x, y *item) {
	g.load(y)
	b, off := g.base(x, scratch)
	g.move(x, true, y.r, b, off)
}

// fixLink lets jumps go to the next word.
func (g *gen) fixLink(l int) { g.fixLinkTo(l, g.pc()) }

func (g *gen) fixLinkTo(l, to int) {
	for l != 0 {
		next := int(g.code[l] & jumpMask)
		g.code[l] = g.code[l]&^jumpMask | uint32(to-l-1)&jumpMask
		l = next
	}
}

// merged puts two lists of jumps together.
func (g *gen) merged(l, k int) int {
	if l == 0 {
		return k
	}
	last := l
	for g.code[last]&jumpMask != 0 {
		last = int(g.code[last] & jumpMask)
	}
	g.code[last] |= uint32(k)
	return l
}

func (g *gen) not(x *item) {
	if x.mode == modeConst {
		x.a = 1 - x.a
		return
	}
	g.loadCond(x)
	x.r ^= switchCond
	x.a, x.b = x.b, x.a
}

// unless jumps, if a condition does not hold.
func (g *gen) unless(x *item) {
	g.loadCond(x)
	g.branch(x.r^switchCond, x.a)
	x.a = g.pc() - 1
	g.fixLink(x.b)
	x.b = 0
}

// when jumps, if a condition holds.
func (g *gen) when(x *item) {
	g.loadCond(x)
	g.branch(x.r, x.b)
	x.b = g.pc() - 1
	g.fixLink(x.a)
	x.a = 0
}

// both goes on with y behind unless, either behind when.
func (g *gen) both(x, y *item) {
	g.loadCond(y)
	x.a, x.b, x.r = g.merged(y.a, x.a), y.b, y.r
}

func (g *gen) either(x, y *item) {
	g.loadCond(y)
	x.a, x.b, x.r = y.a, g.merged(y.b, x.b), y.r
}

// operate does an operation of two items; x is the result.
func (g *gen) operate(op int, x, y *item) {
	if y.mode == modeConst {
		g.load(x)
		g.withConst(op, x.r, x.r, y.a)
		return
	}
	g.load(y)
	g.load(x) // a constant is loaded behind y
	g.rh--
	g.reg(op, g.rh-1, x.r, y.r)
	x.r = g.rh - 1
}

func (g *gen) negate(x *item) {
	if x.mode == modeConst {
		x.a = wrap(-x.a)
		return
	}
	g.load(x)
	g.im(api.OpMov, scratch, 0, 0)
	g.reg(api.OpSub, x.r, scratch, x.r)
}

// divide is x DIV y, x MOD y.
func (g *gen) divide(mod bool, x, y *item) {
	if y.mode == modeConst && y.a&(y.a-1) == 0 {
		g.load(x)
		if mod {
			g.withConst(api.OpAnd, x.r, x.r, y.a-1)
			return
		}
		n := 0
		for y.a>>n > 1 {
			n++
		}
		g.im(api.OpAsr, x.r, x.r, n)
		return
	}
	if y.mode != modeConst {
		g.load(y)
		g.im(api.OpSub, scratch, y.r, 0)
		g.trap(condLE, api.TrapDiv)
	}
	g.operate(api.OpDiv, x, y)
	if mod {
		g.put(api.Ins{Form: api.FormReg, U: true, A: x.r})
	}
}

// compare holds one against the other.
func (g *gen) compare(cond int, x, y *item) {
	g.operate(api.OpSub, x, y)
	g.condition(cond, x)
}

// condition makes of flags a condition; x's register is free.
func (g *gen) condition(cond int, x *item) {
	g.rh--
	x.mode, x.r, x.a, x.b = modeCond, cond, 0, 0
}

// in asks whether x is in y.
func (g *gen) in(x, y *item) {
	if x.mode == modeConst {
		g.load(y)
		g.im(api.OpRor, y.r, y.r, (x.a+1)&31)
	} else {
		g.load(y)
		g.im(api.OpAdd, x.r, x.r, 1)
		g.reg(api.OpRor, x.r, y.r, x.r)
		g.rh--
	}
	g.condition(condMI, x)
}

// single makes of a number the set of it.
func (g *gen) single(x *item) {
	g.load(x)
	g.im(api.OpMov, scratch, 0, 1)
	g.reg(api.OpLsl, x.r, scratch, x.r)
}

func (g *gen) odd(x *item) {
	g.im(api.OpAnd, x.r, x.r, 1)
	g.condition(condNE, x)
}

func (g *gen) abs(x *item) {
	g.im(api.OpSub, scratch, x.r, 0)
	g.branch(condGE, 2)
	g.im(api.OpMov, scratch, 0, 0)
	g.reg(api.OpSub, x.r, scratch, x.r)
}

// far refuses what lies farther off than any variable reaches.
func (g *gen) far(n int) {
	if n > api.MaxSize {
		g.mark(errData)
	}
}

// field goes on to a record's field.
func (g *gen) field(x *item, off int) {
	if x.mode == modePar {
		x.b += off
		g.far(x.b)
		return
	}
	x.a += off
	g.far(x.a)
}

// deref goes on to what a pointer points to.
func (g *gen) deref(x *item) {
	g.load(x)
	g.trap(condEQ, api.TrapNil)
	x.mode, x.a, x.fixed = modeInd, 0, false
}

// index goes on to an array's element, of that size; length 0: an open array's.
func (g *gen) index(x, y *item, length, size int) {
	if y.mode == modeConst && length > 0 {
		n := y.a
		if n < 0 || n >= length {
			g.trap(condT, api.TrapIndex)
			n = 0
		}
		g.far(n * size)
		g.field(x, n*size)
		return
	}
	g.load(y)
	if length > 0 {
		g.im(api.OpSub, scratch, y.r, length)
	} else {
		g.load32(scratch, stack, x.a+wordBytes+g.frame)
		g.reg(api.OpSub, scratch, y.r, scratch)
	}
	g.trap(condCC, api.TrapIndex)
	if size > 1 {
		g.withConst(api.OpMul, y.r, y.r, size)
	}
	b, off := g.base(x, scratch)
	r := y.r
	if x.mode == modeInd {
		r = x.r
		g.rh--
	}
	g.reg(api.OpAdd, r, b, y.r)
	x.mode, x.r, x.a, x.b = modeInd, r, off, 0
}

// prepare pushes the registers that are in use, ahead of a call.
func (g *gen) prepare() int {
	k := g.rh
	if k > fewPushed {
		g.share(&g.pushes[k], k, g.push)
	} else if k > 0 {
		g.push(k)
	}
	g.frame += wordBytes * k
	g.rh = 0
	return k
}

// resume pops them again; a call's answer stands behind them.
func (g *gen) resume(k int, x *item) {
	g.rh = k
	x.r = g.take()
	if k > 0 {
		g.reg(api.OpMov, x.r, 0, 0)
	}
	if k > fewPushed {
		g.share(&g.pops[k], k, g.pop)
	} else if k > 0 {
		g.pop(k)
	}
	g.frame -= wordBytes * k
	x.mode = modeReg
}

func (g *gen) push(k int) {
	g.im(api.OpSub, stack, stack, wordBytes*k)
	for i := range k {
		g.store32(i, stack, wordBytes*i)
	}
}

func (g *gen) pop(k int) {
	for i := range k {
		g.load32(i, stack, wordBytes*i)
	}
	g.im(api.OpAdd, stack, stack, wordBytes*k)
}

// share calls what does something for so many registers, and makes it at first, so that many calls need few words.
func (g *gen) share(place *int, k int, do func(int)) {
	if *place == 0 {
		over := g.pc()
		g.branch(condT, 0)
		*place = g.pc()
		do(k)
		g.back()
		g.fixJump(over)
	}
	g.call(*place - g.pc() - 1)
}

// back goes back to where a call came from.
func (g *gen) back() { g.put(api.Ins{Form: api.FormTo, Cond: condT, C: link}) }

// fixJump lets one jump go to the next word.
func (g *gen) fixJump(at int) {
	g.code[at] = g.code[at]&^jumpMask | uint32(g.pc()-at-1)&jumpMask
}

// enter begins a procedure: its parameters, so many words, and its variables.
func (g *gen) enter(words, bytes int) {
	g.im(api.OpSub, stack, stack, linkBytes+wordBytes*words+bytes)
	g.store32(link, stack, 0)
	for i := range words {
		g.store32(i, stack, linkBytes+wordBytes*i)
	}
	first := linkBytes + wordBytes*words
	if bytes > unrolled*wordBytes {
		g.zeros(first, bytes)
		return
	}
	if bytes > 0 {
		g.im(api.OpMov, scratch, 0, 0)
	}
	for i := 0; i < bytes; i += wordBytes {
		g.store32(scratch, stack, first+i)
	}
}

// zeros makes noughts in a loop.
func (g *gen) zeros(first, bytes int) {
	g.im(api.OpMov, 0, 0, 0)
	g.im(api.OpAdd, 1, stack, first)
	g.im(api.OpAdd, 2, 1, bytes)
	g.store32(0, 1, 0)
	g.im(api.OpAdd, 1, 1, wordBytes)
	g.reg(api.OpSub, 3, 1, 2)
	g.branch(condNE, -4)
}

// leave ends a procedure.
func (g *gen) leave(words, bytes int) {
	g.load32(link, stack, 0)
	g.im(api.OpAdd, stack, stack, linkBytes+wordBytes*words+bytes)
	g.back()
}
