package typing

import (
	"strings"

	"selfsame/api"
)

const (
	basicTypes = "INTEGER BOOLEAN CHAR BYTE SET"
	standard   = "ABS ODD ORD CHR LSL ASR LEN OLD FRESH EOF LENGTH INC DEC NEW ASSERT HALT READ WRITE READW WRITEW SEEK REGISTER DELETE"
)

// function is a predeclared procedure that tells something.
type function struct {
	params int
	do     func(*checker, []api.Node) value
}

// procedure is a predeclared one that is a statement.
type procedure struct {
	least, most int
	do          func(*checker, []api.Node)
}

func functions() map[string]function {
	return map[string]function{
		"ABS": {1, (*checker).abs}, "ODD": {1, (*checker).odd}, "ORD": {1, (*checker).ord}, "CHR": {1, (*checker).chr},
		"LSL": {2, (*checker).lsl}, "ASR": {2, (*checker).asr}, "LEN": {1, (*checker).length},
		"OLD": {1, (*checker).file}, "FRESH": {1, (*checker).file}, "EOF": {1, (*checker).eof}, "LENGTH": {1, (*checker).fileLength},
	}
}

func procedures() map[string]procedure {
	return map[string]procedure{
		"INC": {1, 2, (*checker).increase}, "DEC": {1, 2, (*checker).increase}, "NEW": {1, 1, (*checker).allot},
		"ASSERT": {1, 1, (*checker).assert}, "HALT": {1, 1, (*checker).numbers}, "SEEK": {2, 2, (*checker).numbers}, "WRITEW": {2, 2, (*checker).numbers}, "REGISTER": {1, 1, (*checker).numbers},
		"READ": {2, 2, (*checker).read}, "READW": {2, 2, (*checker).readWord}, "WRITE": {2, 2, (*checker).write}, "DELETE": {1, 1, (*checker).remove},
	}
}

func (c *checker) predeclare() {
	for i, name := range strings.Fields(basicTypes) {
		c.outer.names[name] = &thing{class: api.ClassType, name: name, typ: c.basic[i+1]}
	}
	for _, name := range strings.Fields(standard) {
		c.outer.names[name] = &thing{class: api.ClassStd, name: name}
	}
}

func (c *checker) integer(n api.Node) value {
	x := c.expr(n)
	c.ask(x.typ.integer())
	return x
}

// told is a value of a type, a constant if x is one.
func (c *checker) told(typ int, x value, num int32) value {
	return value{typ: c.basic[typ], constant: x.constant, num: num}
}

func (c *checker) abs(l []api.Node) value {
	x := c.integer(l[0])
	return c.told(api.TypeInteger, x, max(x.num, -x.num))
}

func (c *checker) odd(l []api.Node) value {
	x := c.integer(l[0])
	return c.told(api.TypeBoolean, x, x.num&1)
}

func (c *checker) ord(l []api.Node) value {
	x := c.expr(l[0])
	switch x.typ.basic {
	case api.TypeChar, api.TypeBoolean, api.TypeSet:
	default:
		c.ask(x.typ.integer())
	}
	return c.told(api.TypeInteger, x, x.num)
}

func (c *checker) chr(l []api.Node) value {
	x := c.integer(l[0])
	return c.told(api.TypeChar, x, x.num&255)
}

// shift is of two integers.
func (c *checker) shift(l []api.Node, do func(int32, int32) int32) value {
	x, y := c.integer(l[0]), c.integer(l[1])
	x.constant = x.constant && y.constant
	return c.told(api.TypeInteger, x, do(x.num, y.num&31))
}

func (c *checker) lsl(l []api.Node) value {
	return c.shift(l, func(a, n int32) int32 { return a << n })
}

func (c *checker) asr(l []api.Node) value {
	return c.shift(l, func(a, n int32) int32 { return a >> n })
}

func (c *checker) length(l []api.Node) value {
	c.ask(c.variable(l[0]).typ.array())
	return c.of(api.TypeInteger)
}

// chars is an ARRAY OF CHAR, or a string.
func (c *checker) chars(n api.Node) {
	c.openArray(param{typ: &typ{form: api.FormOpen, base: c.basic[api.TypeChar]}}, n)
}

func (c *checker) file(l []api.Node) value {
	c.chars(l[0])
	return c.of(api.TypeInteger)
}

func (c *checker) remove(l []api.Node) { c.chars(l[0]) }

func (c *checker) eof(l []api.Node) value {
	c.integer(l[0])
	return c.of(api.TypeBoolean)
}

func (c *checker) fileLength(l []api.Node) value {
	c.integer(l[0])
	return c.of(api.TypeInteger)
}

func (c *checker) increase(l []api.Node) {
	c.ask(c.target(l[0]).typ.integer())
	c.numbers(l[1:])
}

func (c *checker) allot(l []api.Node) { c.ask(c.target(l[0]).typ.form == api.FormPointer) }

func (c *checker) assert(l []api.Node) { c.condition(l[0]) }

func (c *checker) numbers(l []api.Node) {
	for _, n := range l {
		c.integer(n)
	}
}

func (c *checker) read(l []api.Node) {
	c.integer(l[0])
	t := c.target(l[1]).typ
	c.ask(t.basic == api.TypeChar || t.basic == api.TypeByte)
}

func (c *checker) readWord(l []api.Node) {
	c.integer(l[0])
	c.ask(c.target(l[1]).typ.basic == api.TypeInteger)
}

func (c *checker) write(l []api.Node) {
	c.integer(l[0])
	t := c.expr(l[1]).typ
	c.ask(t.integer() || t.basic == api.TypeChar)
}
