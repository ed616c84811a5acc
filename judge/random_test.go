package judge

import (
	"os"
	"strconv"
	"strings"
	"testing"

	"selfsame/compile"
	"selfsame/store"
	"selfsame/syntax"
)

// random makes sources that are right for the most part.
type random struct {
	seed  uint64
	b     strings.Builder
	types []*rtype // that have names
	vars  []rvar
	procs []rproc
	level int
	names int
	deep  int
	loops int
}

type rtype struct {
	name   string
	basic  string // INTEGER, ..
	base   *rtype
	length int
	ptr    bool
	fields []rfield
}

type rfield struct {
	name string
	typ  *rtype
}

type rvar struct {
	name  string
	typ   *rtype
	fixed bool
	level int // 0: a module's
	open  bool
}

type rproc struct {
	name   string
	params []rparam
	result *rtype
}

type rparam struct {
	isVar, open bool
	typ         *rtype
}

func (r *random) n(n int) int {
	r.seed = r.seed*6364136223846793005 + 1442695040888963407
	return int((r.seed >> 33) % uint64(n))
}

func (r *random) one(l ...string) string { return l[r.n(len(l))] }

func (r *random) put(l ...string) {
	for _, s := range l {
		r.b.WriteString(s)
	}
}

func (r *random) name(s string) string {
	r.names++
	return s + strconv.Itoa(r.names)
}

var basics = []*rtype{{name: "INTEGER", basic: "INTEGER"}, {name: "BOOLEAN", basic: "BOOLEAN"}, {name: "CHAR", basic: "CHAR"}, {name: "BYTE", basic: "BYTE"}, {name: "SET", basic: "SET"}}

var integer, boolean, char, byteType, set = basics[0], basics[1], basics[2], basics[3], basics[4]

func (t *rtype) scalar() bool { return t.basic != "" || t.ptr }

func (r *random) anyType() *rtype {
	if len(r.types) > 0 && r.n(3) == 0 {
		return r.types[r.n(len(r.types))]
	}
	return basics[r.n(len(basics))]
}

func (r *random) scalarType() *rtype {
	for {
		if t := r.anyType(); t.scalar() {
			return t
		}
	}
}

func (r *random) typeDecls() {
	r.put("TYPE ")
	for range 1 + r.n(3) {
		switch r.n(3) {
		case 0:
			t := &rtype{name: r.name("A"), base: r.anyType(), length: 1 + r.n(5)}
			r.put(t.name, "* = ARRAY ", strconv.Itoa(t.length), " OF ", t.base.name, ";\n")
			r.types = append(r.types, t)
		case 1:
			r.put("")
			r.record(nil)
		case 2:
			p := &rtype{name: r.name("P"), ptr: true}
			rec := r.name("R")
			r.put(p.name, "* = POINTER TO ", rec, ";\n")
			p.base = r.record(&named{p, rec})
			r.types = append(r.types, p)
		}
	}
}

type named struct {
	p    *rtype
	name string
}

func (r *random) record(n *named) *rtype {
	t := &rtype{name: r.name("R")}
	if n != nil {
		t.name = n.name
		t.fields = append(t.fields, rfield{"next", n.p})
	}
	for i := range 1 + r.n(4) {
		t.fields = append(t.fields, rfield{"f" + strconv.Itoa(i), r.anyType()})
	}
	r.put(t.name, "* = RECORD ")
	for i, f := range t.fields {
		if i > 0 {
			r.put("; ")
		}
		r.put(f.name, ": ", f.typ.name)
	}
	r.put(" END;\n")
	r.types = append(r.types, t)
	return t
}

func (r *random) varDecls(n int) {
	r.put("VAR ")
	star := ""
	if r.level == 0 {
		star = "*"
	}
	for range n {
		t := r.anyType()
		v := rvar{name: r.name("v"), typ: t, level: r.level}
		r.put(v.name, star, ": ", t.name, ";\n")
		r.vars = append(r.vars, v)
	}
	for _, t := range []*rtype{integer, boolean, char} {
		v := rvar{name: r.name("w"), typ: t, level: r.level}
		r.put(v.name, star, ": ", t.name, ";\n")
		r.vars = append(r.vars, v)
	}
}

// path goes on from a variable to one of a type, if it can.
func (r *random) path(text string, t, want *rtype, fixed, write bool, deep int) (string, bool) {
	if t == want && (!fixed || !write) && (deep == 0 || r.n(3) > 0) {
		return text, true
	}
	if deep == 0 {
		return "", false
	}
	switch {
	case t.ptr:
		for range 2 {
			f := t.base.fields[r.n(len(t.base.fields))]
			if s, ok := r.path(text+r.one(".", "^.")+f.name, f.typ, want, false, write, deep-1); ok {
				return s, true
			}
		}
	case len(t.fields) > 0:
		for range 3 {
			f := t.fields[r.n(len(t.fields))]
			if s, ok := r.path(text+"."+f.name, f.typ, want, fixed, write, deep-1); ok {
				return s, true
			}
		}
	case t.base != nil:
		return r.path(text+"["+r.indexOf(t.length)+"]", t.base, want, fixed, write, deep-1)
	}
	if t == want && (!fixed || !write) {
		return text, true
	}
	return "", false
}

func (r *random) indexOf(length int) string {
	if r.deep > 4 {
		return strconv.Itoa(r.n(length))
	}
	switch r.n(12) {
	case 0:
		return r.expr(integer)
	case 1, 2, 3:
		return "(" + r.expr(integer) + ") MOD " + strconv.Itoa(length)
	}
	return strconv.Itoa(r.n(length))
}

// designator is a variable of a type; "": there is none.
func (r *random) designator(want *rtype, write bool) string {
	for range 12 {
		if len(r.vars) == 0 {
			return ""
		}
		v := r.vars[r.n(len(r.vars))]
		if v.level != 0 && v.level != r.level {
			continue
		}
		if v.open {
			if s, ok := r.path(v.name+"["+r.indexOf(3)+"]", v.typ, want, v.fixed, write, 2); ok {
				return s
			}
			continue
		}
		if s, ok := r.path(v.name, v.typ, want, v.fixed, write, 3); ok {
			return s
		}
	}
	return ""
}

func (r *random) call(p rproc) string {
	var l []string
	for _, x := range p.params {
		switch {
		case x.open:
			l = append(l, r.openArg(x))
		case x.isVar || !x.typ.scalar():
			l = append(l, r.designator(x.typ, x.isVar))
		default:
			l = append(l, r.expr(x.typ))
		}
		if l[len(l)-1] == "" {
			return ""
		}
	}
	return p.name + "(" + strings.Join(l, ", ") + ")"
}

func (r *random) openArg(x rparam) string {
	if x.typ == char && !x.isVar && r.n(2) == 0 {
		return "\"" + r.one("", "a", "ab", "file.x", "q1") + "\""
	}
	for range 10 {
		if len(r.vars) == 0 {
			return ""
		}
		v := r.vars[r.n(len(r.vars))]
		if (v.level == 0 || v.level == r.level) && !(x.isVar && v.fixed) && (v.open && v.typ == x.typ || !v.open && v.typ.length > 0 && v.typ.base == x.typ) {
			return v.name
		}
	}
	return ""
}

func (r *random) expr(t *rtype) string {
	r.deep++
	defer func() { r.deep-- }()
	if r.deep > 4 || r.n(4) == 0 {
		return r.leaf(t)
	}
	s := ""
	switch {
	case t == integer || t == byteType:
		s = r.integerExpr()
	case t == boolean:
		s = r.booleanExpr()
	case t == set:
		s = r.setExpr()
	case t == char:
		s = r.one("CHR("+r.expr(integer)+")", r.leaf(char))
	}
	if s == "" || r.n(4) == 0 {
		for range 4 {
			if len(r.procs) == 0 {
				break
			}
			p := r.procs[r.n(len(r.procs))]
			if p.result == t || p.result == byteType && t == integer {
				if c := r.call(p); c != "" {
					return c
				}
			}
		}
	}
	if s == "" {
		return r.leaf(t)
	}
	return s
}

func (r *random) integerExpr() string {
	switch r.n(9) {
	case 0:
		return "(" + r.expr(integer) + ") " + r.one("+", "-", "*") + " (" + r.expr(integer) + ")"
	case 1:
		return r.leaf(integer) + " " + r.one("+", "-", "*") + " " + r.leaf(byteType)
	case 2:
		return "(" + r.expr(integer) + ") " + r.one("DIV", "MOD") + " " + r.one("2", "3", "8", "100000", "1", "(ABS("+r.leaf(integer)+") MOD 50 + 1)", "("+r.expr(integer)+")")
	case 3:
		return "ABS(" + r.expr(integer) + ")"
	case 4:
		return "ORD(" + r.expr(basics[r.n(5)]) + ")"
	case 5:
		return r.one("LSL", "ASR") + "(" + r.expr(integer) + ", " + r.expr(integer) + ")"
	case 6:
		return r.one("-", "+") + r.leaf(integer) + " " + r.one("+", "-", "*") + " (" + r.expr(integer) + ")"
	case 7:
		if s := r.openArg(rparam{typ: r.anyType(), isVar: true}); s != "" {
			return "LEN(" + s + ")"
		}
	}
	return r.one("LENGTH("+r.expr(integer)+")", "OLD(\"f1\")", "FRESH(\"f2\")", r.leaf(integer))
}

func (r *random) setExpr() string {
	switch r.n(4) {
	case 0:
		return "{" + r.expr(integer) + "}"
	case 1:
		return "{" + strconv.Itoa(r.n(40)) + ", " + r.expr(byteType) + ", 3}"
	case 2:
		return "(" + r.expr(set) + ") " + r.one("+", "-", "*", "/") + " (" + r.expr(set) + ")"
	}
	return r.leaf(set) + " " + r.one("+", "-", "*", "/") + " " + r.leaf(set)
}

func (r *random) booleanExpr() string {
	switch r.n(8) {
	case 0:
		t := basics[r.n(5)]
		return "(" + r.expr(t) + ") " + r.one("=", "#") + " (" + r.expr(t) + ")"
	case 1:
		return r.leaf(integer) + " " + r.one("<", "<=", ">", ">=") + " " + r.expr2(integer)
	case 2:
		return r.leaf(char) + " " + r.one("<", "<=", ">", ">=", "=", "#") + " " + r.leaf(char)
	case 3:
		return "(" + r.expr(boolean) + ") " + r.one("&", "OR") + " (" + r.expr(boolean) + ")"
	case 4:
		return r.leaf(boolean) + " " + r.one("&", "OR") + " ~(" + r.expr(boolean) + ") " + r.one("&", "OR") + " " + r.leaf(boolean)
	case 5:
		return "(" + r.expr(integer) + ") IN (" + r.expr(set) + ")"
	case 6:
		return r.one("ODD(", "EOF(") + r.expr(integer) + ")"
	}
	if len(r.types) > 0 {
		if t := r.types[r.n(len(r.types))]; t.ptr {
			return r.leaf(t) + r.one(" = ", " # ") + r.one("NIL", r.leafVar(t))
		}
	}
	return r.leaf(boolean)
}

// expr2 is a simple expression.
func (r *random) expr2(t *rtype) string {
	return r.leaf(t) + " " + r.one("+", "-", "*") + " (" + r.expr(t) + ")"
}

// leafVar is a variable, or else NIL.
func (r *random) leafVar(t *rtype) string {
	if s := r.designator(t, false); s != "" {
		return s
	}
	return "NIL"
}

func (r *random) leaf(t *rtype) string {
	if r.n(3) > 0 {
		if s := r.designator(t, false); s != "" {
			return s
		}
	}
	switch {
	case t == integer:
		return r.one("0", "1", "2", "7", "100", "65535", "65536", "1000000", "80000000H", "0FFFFFFFFH", strconv.Itoa(r.n(300)))
	case t == byteType:
		return r.one("0", "255", "256", strconv.Itoa(r.n(300)))
	case t == boolean:
		return r.one("TRUE", "FALSE")
	case t == char:
		return r.one("\"a\"", "\"z\"", "0X", "41X", "0FFX")
	case t == set:
		return r.one("{}", "{1}", "{0, 31}", "{5, 70}")
	}
	return "NIL"
}

func (r *random) stmts(n int) {
	for i := range n {
		if i > 0 {
			r.put(";\n")
		}
		r.stmt()
	}
}

func (r *random) stmt() {
	r.deep++
	defer func() { r.deep-- }()
	switch k := r.n(14); {
	case k < 5:
		t := r.scalarType()
		if v := r.designator(t, true); v != "" {
			r.put(v, " := ", r.expr(t))
		}
	case k == 5 && r.deep < 4:
		r.put("IF ", r.expr(boolean), " THEN ")
		r.stmts(r.n(3))
		for range r.n(2) {
			r.put(" ELSIF ", r.expr(boolean), " THEN ")
			r.stmts(1 + r.n(2))
		}
		if r.n(2) == 0 {
			r.put(" ELSE ")
			r.stmts(1 + r.n(2))
		}
		r.put(" END")
	case k == 6 && r.deep < 4:
		if v := r.designator(integer, true); v != "" {
			r.put("WHILE (", v, " < ", strconv.Itoa(r.n(9)), ") & (", r.expr(boolean), ") DO INC(", v, "); ")
			r.stmts(1 + r.n(2))
			r.put(" END")
		}
	case k == 7 && r.deep < 4:
		r.put("REPEAT ")
		r.stmts(1 + r.n(2))
		r.put(" UNTIL TRUE OR (", r.expr2(integer), " = 5)")
	case k == 8:
		if v := r.designator([]*rtype{integer, byteType}[r.n(2)], true); v != "" {
			r.put(r.one("INC", "DEC"), "(", v, r.one("", ", "+r.expr(integer)), ")")
		}
	case k == 9 && len(r.types) > 0:
		if t := r.types[r.n(len(r.types))]; t.ptr {
			if v := r.designator(t, true); v != "" {
				r.put("NEW(", v, ")")
			}
		}
	case k == 10:
		r.fileStmt()
	case k == 11 && r.n(4) == 0:
		r.put(r.one("ASSERT(("+r.expr(boolean)+") OR TRUE)", "ASSERT("+r.expr(boolean)+")", "HALT("+r.expr(integer)+")"))
	default:
		for range 5 {
			if len(r.procs) > 0 {
				if p := r.procs[r.n(len(r.procs))]; p.result == nil {
					if c := r.call(p); c != "" {
						r.put(c)
						return
					}
				}
			}
		}
	}
}

func (r *random) fileStmt() {
	f := r.one("1", "2", "3", r.leaf(integer))
	switch r.n(7) {
	case 0:
		r.put("WRITE(", f, ", ", r.expr([]*rtype{integer, char, byteType}[r.n(3)]), ")")
	case 1:
		r.put("WRITEW(", f, ", ", r.expr(integer), ")")
	case 2:
		if v := r.designator([]*rtype{char, byteType}[r.n(2)], true); v != "" {
			r.put("READ(", f, ", ", v, ")")
		}
	case 3:
		if v := r.designator(integer, true); v != "" {
			r.put("READW(", f, ", ", v, ")")
		}
	case 4:
		r.put("SEEK(", f, ", ", r.leaf(integer), ")")
	case 5:
		r.put("REGISTER(", f, ")")
	case 6:
		r.put("DELETE(\"f1\")")
	}
}

func (r *random) procedure(nested int) {
	p := rproc{name: r.name("p")}
	outerVars := len(r.vars)
	star := ""
	if r.level == 0 && r.n(2) == 0 {
		star = "*"
	}
	r.level++
	r.put("PROCEDURE ", p.name, star, "(")
	for i := range r.n(4) {
		x := rparam{isVar: r.n(3) == 0, open: r.n(4) == 0, typ: r.anyType()}
		v := rvar{name: r.name("a"), typ: x.typ, level: r.level, open: x.open, fixed: !x.isVar && (x.open || !x.typ.scalar())}
		if i > 0 {
			r.put("; ")
		}
		if x.isVar {
			r.put("VAR ")
		}
		r.put(v.name, ": ")
		if x.open {
			r.put("ARRAY OF ")
		}
		r.put(x.typ.name)
		p.params = append(p.params, x)
		r.vars = append(r.vars, v)
	}
	r.put(")")
	if r.n(2) == 0 {
		p.result = r.scalarType()
		r.put(": ", p.result.name)
	}
	r.put(";\n")
	r.varDecls(r.n(3))
	if nested > 0 && r.n(3) == 0 {
		before := len(r.procs)
		vars := len(r.vars)
		r.procedure(nested - 1)
		defer func() { r.procs = append(r.procs[:before], p) }()
		r.vars = r.vars[:vars]
	}
	r.put("BEGIN ")
	if r.n(3) == 0 {
		r.procs = append(r.procs, p)
		r.stmts(1 + r.n(4))
		r.procs = r.procs[:len(r.procs)-1]
	} else {
		r.stmts(1 + r.n(4))
	}
	if p.result != nil {
		r.put(" RETURN ", r.expr(p.result))
	}
	r.put(" END ", p.name, ";\n")
	r.level--
	r.vars = r.vars[:outerVars]
	r.procs = append(r.procs, p)
}

// begin lets pointers point to something, and riders be there.
func (r *random) begin() {
	for _, v := range r.vars {
		if v.typ.ptr && !v.fixed && !v.open {
			r.put("NEW(", v.name, ");\n")
			if f := v.typ.base.fields[0]; f.typ == v.typ && r.n(2) == 0 {
				r.put("NEW(", v.name, ".next); ", v.name, ".next.next := ", v.name, ";\n")
			}
		}
		if v.typ == integer && !v.fixed && r.n(2) == 0 {
			r.put(v.name, " := FRESH(\"f1\"); REGISTER(", v.name, "); WRITEW(", v.name, ", ", v.name, ");\n")
		}
	}
}

// tell writes what the module's variables hold.
func (r *random) tell(name string) {
	rider := ""
	for _, v := range r.vars {
		if v.typ == integer && !v.fixed && v.level == 0 {
			rider = v.name
		}
	}
	r.put(";\n", rider, " := FRESH(\"", name, "\"); REGISTER(", rider, ")")
	for _, v := range r.vars {
		if !v.fixed && v.level == 0 {
			r.tellVar(rider, v.name, v.typ, 3)
		}
	}
}

func (r *random) tellVar(rider, text string, t *rtype, deep int) {
	switch {
	case deep == 0:
	case t.basic != "":
		r.put(";\nWRITEW(", rider, ", ORD(", text, "))")
	case t.ptr:
		r.put(";\nIF ", text, " # NIL THEN WRITE(", rider, ", 1)")
		for _, f := range t.base.fields {
			r.tellVar(rider, text+"."+f.name, f.typ, deep-1)
		}
		r.put(" END")
	case len(t.fields) > 0:
		for _, f := range t.fields {
			r.tellVar(rider, text+"."+f.name, f.typ, deep-1)
		}
	default:
		for i := range t.length {
			r.tellVar(rider, text+"["+strconv.Itoa(i)+"]", t.base, deep-1)
		}
	}
}

// module is a source; what it exports is told by r's lists with its name ahead.
func (r *random) module(name string, imports ...string) string {
	r.b.Reset()
	r.put("MODULE ", name, ";\n")
	if len(imports) > 0 {
		r.put("IMPORT ", strings.Join(imports, ", "), ";\n")
	}
	if r.n(3) > 0 {
		r.typeDecls()
	}
	r.varDecls(2 + r.n(5))
	for range r.n(4) {
		r.procedure(2)
	}
	r.put("BEGIN\n")
	if r.n(5) > 0 {
		r.begin()
	}
	r.stmts(2 + r.n(12))
	if r.n(5) > 0 {
		r.tell(name)
	}
	r.put("\nEND ", name, ".")
	return r.b.String()
}

// shown lets all names be those of another module; what that one imported is not known any more, unless it is kept.
func (r *random) shown(name, source string, keep bool) {
	prefix := name + "."
	told := func(s string) (string, bool) {
		if strings.Contains(s, ".") {
			return s, keep
		}
		return prefix + s, true
	}
	var types []*rtype
	for _, t := range r.types {
		n, ok := told(t.name)
		if t.name = n; ok {
			types = append(types, t)
		}
	}
	r.types = types
	var vars []rvar
	for _, v := range r.vars {
		n, ok := told(v.name)
		if v.name, v.fixed = n, true; ok {
			vars = append(vars, v)
		}
	}
	r.vars = vars
	var procs []rproc
	for _, p := range r.procs {
		n, ok := told(p.name)
		if ok && (n == p.name || strings.Contains(source, "PROCEDURE "+p.name+"*")) {
			p.name = n
			procs = append(procs, p)
		}
	}
	r.procs = procs
}

// program is a few modules.
func (r *random) program(i int) []string {
	sources := []string{r.module("M1")}
	if i%3 > 0 {
		r.shown("M1", sources[0], true)
		sources = append(sources, r.module("M2", "M1"))
	}
	if i%9 > 4 && i%3 > 0 {
		keep := r.n(2) == 0
		r.shown("M2", sources[1], keep)
		if keep {
			sources = append(sources, r.module("M3", "M2", "M1"))
		} else {
			sources = append(sources, r.module("M3", "M2"))
		}
	}
	return sources
}

// count is how many sources are made; SELFSAME asks for more.
func count(n int) int {
	if k, err := strconv.Atoi(os.Getenv("SELFSAME")); err == nil {
		return n * k
	}
	return n
}

// P24.3: random programs
func TestRandom(t *testing.T) {
	compiled, first := 0, 1
	if k, err := strconv.Atoi(os.Getenv("FIRST")); err == nil {
		first = k
	}
	total := count(300)
	for i := range total {
		r := &random{seed: uint64(first + i)}
		sources := r.program(i)
		s, _ := store.New(1 << 20)
		var all [][]byte
		right := true
		for _, text := range sources {
			all = append(all, []byte(text))
			if !Source([]byte(text), s) {
				t.Errorf("%d: judged wrongly:\n%s", first+i, text)
			}
			if i%5 == 0 && !Boot([]byte(text), s) {
				t.Errorf("%d: booted wrongly:\n%s", first+i, text)
			}
			s.Put("source", []byte(text))
			code, pos, _ := compile.Build(s)
			if code != 0 && os.Getenv("TOLD") != "" {
				t.Logf("%d: error %d at %d: %.200q", first+i, code, pos, text[max(pos-150, 0):])
			}
			right = right && code == 0
		}
		if right {
			compiled++
		}
		if !Run(3000, all...) {
			t.Errorf("%d: run wrongly:\n%s", first+i, strings.Join(sources, "\n\n"))
		}
		r.mutations(t, first+i, s, sources[len(sources)-1])
	}
	if compiled < total*3/4 {
		t.Error(compiled)
	}
}

// mutations judges a source some symbols of which are others.
func (r *random) mutations(t *testing.T, number int, s *store.Store, text string) {
	var symbols []string
	for _, x := range syntax.Symbols([]byte(text)) {
		symbols = append(symbols, x)
	}
	for k := range 6 {
		l := append([]string(nil), symbols...)
		for range 1 + r.n(2) {
			i, j := r.n(len(l)), r.n(len(l))
			switch r.n(4) {
			case 0:
				l[i] = l[j]
			case 1:
				l[i], l[j] = l[j], l[i]
			case 2:
				l[i] += " " + l[j]
			case 3:
				l[i] = r.one("", "INTEGER", "1", "\"a\"", "NIL", "TRUE", "w5", "(", "~", ".", "[", "^", "VAR", "END", "0", "CHAR", "-", "{", "ABS", "x", ",", ";")
			}
		}
		source := []byte(strings.Join(l, " "))
		if !Source(source, s) {
			t.Errorf("%d: judged wrongly: %s", number, source)
		}
		if k == 0 && number%7 == 0 && !Boot(source, s) {
			t.Errorf("%d: booted wrongly: %s", number, source)
		}
	}
}
