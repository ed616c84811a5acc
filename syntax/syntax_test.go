package syntax

import (
	"fmt"
	"slices"
	"strings"
	"testing"

	"selfsame/api"
	"selfsame/samples"
	"selfsame/tree"
)

func id(name string) api.Node { return named(api.NodeName, name) }

func num(n uint32) api.Node { return api.Node{Kind: api.NodeNumber, Value: n} }

func op(name string, a, b api.Node) api.Node { return named(api.NodeOp, name, a, b) }

func field(n api.Node, name string) api.Node { return named(api.NodeField, name, n) }

func same(t *testing.T, source string, got api.Node, at int, e api.Errno, want api.Node) {
	t.Helper()
	if !tree.Same(got, want) || at != 0 || e != api.OK {
		t.Errorf("%s: %v at %d %v", source, got, at, e)
	}
}

// P16.2
func TestExpr(t *testing.T) {
	i := func(a, x api.Node) api.Node { return of(api.NodeIndex, a, x) }
	for source, want := range map[string]api.Node{
		"1 + 2 * a[3]":                        op("+", num(1), op("*", num(2), i(id("a"), num(3)))),
		"1-2-3":                               op("-", op("-", num(1), num(2)), num(3)),
		"a DIV b MOD c & d/e":                 op("/", op("&", op("MOD", op("DIV", id("a"), id("b")), id("c")), id("d")), id("e")),
		"- a * b + c OR d":                    op("OR", op("+", named(api.NodeSign, "-", op("*", id("a"), id("b"))), id("c")), id("d")),
		"+1 <= -2":                            op("<=", named(api.NodeSign, "+", num(1)), named(api.NodeSign, "-", num(2))),
		"a IN {1, b + 1, {}}":                 op("IN", id("a"), of(api.NodeSet, num(1), op("+", id("b"), num(1)), of(api.NodeSet))),
		" ~ ~(a # NIL)(**) ":                  of(api.NodeNot, of(api.NodeNot, of(api.NodeParen, op("#", id("a"), of(api.NodeNil))))),
		"M.x.y[1]^.z(a, 2)":                   of(api.NodeCall, field(of(api.NodeDeref, i(field(field(id("M"), "x"), "y"), num(1))), "z"), id("a"), num(2)),
		"f()":                                 of(api.NodeCall, id("f")),
		"TRUE = FALSE":                        op("=", of(api.NodeTrue), of(api.NodeFalse)),
		"\"\"":                                named(api.NodeString, ""),
		"\"a\" > \"(* \"":                     op(">", named(api.NodeString, "a"), named(api.NodeString, "(* ")),
		"\"" + strings.Repeat("x", 63) + "\"": named(api.NodeString, strings.Repeat("x", 63)),
		"0FFX":                                {Kind: api.NodeChar, Value: 255},
		"0FFFFFFFFH":                          num(1<<32 - 1),
		"2147483647":                          num(1<<31 - 1),
		"00000000000000009":                   num(9),
		"000":                                 num(0),
		"5MOD 3":                              op("MOD", num(5), num(3)),
	} {
		n, at, e := Expr([]byte(source))
		same(t, source, n, at, e, want)
		if !tree.MayExpr(n) {
			t.Error(source, "may not be")
		}
	}
	for source, at := range map[string]int{"\"" + strings.Repeat("x", 64) + "\"": 0, "": 0, "  ": 2, "1 2": 2, "1 +": 3, "a.5": 2, "a[1": 3, "a[]": 2, "(1": 2, "{1,}": 3, "f(,)": 2, "f(1,)": 4, "1 = 2 = 3": 6, "- -1": 2, "1 + -1": 4, "10DIV": 0, "a + 0FF": 4, "a + \"x": 4, "a (* b": 2, "a ! ": 2, "f() . x": 4, "1.x": 1, "a := 1": 2, "abcdefghijklmnop": 0, "IF": 0, "NIL.x": 3, "(1))": 3, "2147483648": 0, "999999999999999999999999999": 0, "1 IN IN": 5, "100X": 0, "100000000H": 0} {
		if n, got, e := Expr([]byte(source)); got != at || e != api.ErrBytes || n.Kind != 0 {
			t.Error(source, got, e)
		}
	}
}

// P16.2
func TestStmts(t *testing.T) {
	call := of(api.NodeCall, id("p"))
	for source, want := range map[string]api.Node{
		"":                 of(api.NodeStmts),
		" ;; ":             of(api.NodeStmts),
		"p; p(); ;p(1)":    of(api.NodeStmts, call, call, of(api.NodeCall, id("p"), num(1))),
		"a.b := c(d)":      of(api.NodeStmts, of(api.NodeAssign, field(id("a"), "b"), of(api.NodeCall, id("c"), id("d")))),
		"IF a THEN p END":  of(api.NodeStmts, of(api.NodeIf, id("a"), of(api.NodeStmts, call))),
		"WHILE a DO p END": of(api.NodeStmts, of(api.NodeWhile, id("a"), of(api.NodeStmts, call))),
		"REPEAT p UNTIL a": of(api.NodeStmts, of(api.NodeRepeat, of(api.NodeStmts, call), id("a"))),
		"IF a THEN ELSIF b THEN p ELSIF c THEN ELSE p END": of(api.NodeStmts, of(api.NodeIf, id("a"), of(api.NodeStmts), id("b"), of(api.NodeStmts, call), id("c"), of(api.NodeStmts), of(api.NodeStmts, call))),
	} {
		n, at, e := Stmts([]byte(source))
		same(t, source, n, at, e, want)
		if !tree.MayStmts(n) {
			t.Error(source, "may not be")
		}
	}
	for source, at := range map[string]int{"1": 0, "p p": 2, "p := ": 5, "p = 1": 2, "IF a END": 5, "IF a THEN": 9, "IF a THEN ELSE ELSE END": 15, "WHILE a THEN": 8, "REPEAT END": 7, "p(1) := 2": 5, "END": 0, "p; END": 3, "RETURN 1": 0, "(p)": 0} {
		if n, got, e := Stmts([]byte(source)); got != at || e != api.ErrBytes || n.Kind != 0 {
			t.Error(source, got, e)
		}
	}
}

// P16.1
func TestParse(t *testing.T) {
	name := func(kind api.NodeKind, name string, mark bool, kids ...api.Node) api.Node {
		n := named(kind, name, kids...)
		n.Mark = mark
		return n
	}
	param := func(mark bool, kids ...api.Node) api.Node { return name(api.NodeParam, "", mark, kids...) }
	source := "MODULE M; IMPORT A, B; CONST c* = 1; d = c; TYPE T* = RECORD a, b: CHAR; ; c: POINTER TO T END; U = ARRAY 3 OF A.T; VAR v*, w: T; " +
		"PROCEDURE P*(VAR x, y: A.T; z: ARRAY OF CHAR): INTEGER; CONST k = 1; BEGIN p; RETURN 1 END P; PROCEDURE Q; PROCEDURE R(); END R; RETURN 2 END Q; BEGIN p END M. END"
	want := named(api.NodeModule, "M", of(api.NodeImports, id("A"), id("B")), of(api.NodeDecls,
		name(api.NodeConst, "c", true, num(1)), name(api.NodeConst, "d", false, id("c")),
		name(api.NodeType, "T", true, of(api.NodeRecord, of(api.NodeFields, id("a"), id("b"), id("CHAR")), of(api.NodeFields, id("c"), of(api.NodePointer, id("T"))))),
		name(api.NodeType, "U", false, of(api.NodeArray, num(3), named(api.NodeQual, "A", id("T")))),
		of(api.NodeVar, name(api.NodeDef, "v", true), name(api.NodeDef, "w", false), id("T")),
		name(api.NodeProc, "P", true, of(api.NodeParams, param(true, id("x"), id("y"), named(api.NodeQual, "A", id("T"))), param(false, id("z"), of(api.NodeOpen, id("CHAR")))), id("INTEGER"), of(api.NodeDecls, name(api.NodeConst, "k", false, num(1))), of(api.NodeStmts, of(api.NodeCall, id("p"))), num(1)),
		name(api.NodeProc, "Q", false, of(api.NodeParams), of(api.NodeNone), of(api.NodeDecls, name(api.NodeProc, "R", false, of(api.NodeParams), of(api.NodeNone), of(api.NodeDecls), of(api.NodeStmts), of(api.NodeNone))), of(api.NodeStmts), num(2))),
		of(api.NodeStmts, of(api.NodeCall, id("p"))))
	n, at, e := Parse([]byte(source))
	same(t, source, n, at, e, want)
	if !tree.May(n) {
		t.Error("may not be")
	}
	for source, at := range map[string]int{
		"MODULE M; BEGIN x := ; END M.": 21, "": 0, " (* *) ": 7, "MODULE": 6, "MODULE M END": 9, "MODULE M; END N.": 14, "MODULE M; END": 13, "MODULE M; END M": 15, "MODULE M; END M;": 15, "MODULE IF; END IF.": 7, "module M; END M.": 0,
		"MODULE M; IMPORT ; END M.": 17, "MODULE M; IMPORT A END M.": 19, "MODULE M; CONST 1": 16, "MODULE M; CONST a* b": 19, "MODULE M; CONST a = 1 TYPE": 22, "MODULE M; VAR a: CHAR; TYPE": 23, "MODULE M; TYPE T = RECORD a*: CHAR END": 27, "MODULE M; TYPE T = POINTER R": 27, "MODULE M; TYPE T = ARRAY OF": 25, "MODULE M; TYPE T = (A)": 19,
		"MODULE M; PROCEDURE P; VAR a*: CHAR": 28, "MODULE M; PROCEDURE P; PROCEDURE Q*": 34, "MODULE M; PROCEDURE P(a* : CHAR)": 23, "MODULE M; PROCEDURE P; END Q": 27, "MODULE M; PROCEDURE P; END P END M.": 29, "MODULE M; PROCEDURE P: CHAR": 21, "MODULE M; PROCEDURE P(a: ARRAY 3 OF": 31, "MODULE M; PROCEDURE P(a: CHAR;)": 30, "MODULE M; PROCEDURE P(): ARRAY": 25, "MODULE M; BEGIN RETURN": 16, "MODULE M; PROCEDURE P; RETURN END": 30, "MODULE M; BEGIN END; END M.": 19,
		"MODULE M; (* END M.": 10, "MODULE M; \"": 10, "MODULE M; END M\x00\x80": 16, "MODULE M; END abcdefghijklmnop.": 14, "MODULE M; END \x80M.": 14, "MODULE M; PROCEDURE P; BEGIN p RETURN 1; END": 39, "MODULE M; CONST a = 1; CONST": 23,
	} {
		if n, got, e := Parse([]byte(source)); got != at || e != api.ErrBytes || n.Kind != 0 {
			t.Errorf("%q: %d %v", source, got, e)
		}
	}
	long := append([]byte("MODULE M; END M."), make([]byte, api.MaxSource-16)...)
	if _, at, e := Parse(long); at != 0 || e != api.OK {
		t.Error(at, e)
	}
	long = append(long, ' ')
	for _, f := range []func([]byte) (api.Node, int, api.Errno){Parse, Expr, Stmts} {
		if n, at, e := f(long); at != 0 || e != api.ErrLong || n.Kind != 0 {
			t.Error(at, e)
		}
	}
	for range Symbols(long) {
		t.Error("a symbol")
	}
}

// P16.4
func TestBeginnings(t *testing.T) {
	for _, source := range samples.Right() {
		n, _, e := Parse([]byte(source))
		if e != api.OK || !tree.May(n) {
			t.Errorf("%s: %v", source, e)
			continue
		}
		last := strings.LastIndex(source, ".")
		for i := range last {
			_, at, e := Parse([]byte(source[:i]))
			if e != api.ErrBytes || at != i && !cut(source, at, i) {
				t.Errorf("%q: %d", source[:i], at)
			}
		}
		var parts []string
		for _, s := range Symbols([]byte(source[:last+1])) {
			parts = append(parts, s)
		}
		m, _, e := Parse([]byte("(* (* *) *)" + strings.Join(parts, "\n(**)\t") + " \" more"))
		if e != api.OK || !tree.Same(m, n) {
			t.Errorf("%s: blanks change something", source)
		}
	}
}

// cut: does a symbol of the source, or a comment, go from at beyond end?
func cut(source string, at, end int) bool {
	for i, s := range Symbols([]byte(source)) {
		if i == at && i+len(s) > end {
			return true
		}
	}
	return strings.HasPrefix(source[at:], "(*")
}

// P16.3
func TestSymbols(t *testing.T) {
	for source, want := range map[string]string{
		"":                                "",
		"x:=0FFH;(* c *)\"a b\"<= <>5MOD": "0x 1:= 30FFH 7; 15\"a b\" 20<= 23< 24> 255 26MOD",
		"a 10DIV":                         "0a",
		"a . b ! c":                       "0a 2. 4b",
		"END M. \"":                       "0END 4M 5.",
		"a (* b":                          "0a",
		"[]{}()^~&/*#=,":                  "0[ 1] 2{ 3} 4( 5) 6^ 7~ 8& 9/ 10* 11# 12= 13,",
	} {
		symbols := Symbols([]byte(source))
		for range 2 {
			var l []string
			for at, s := range symbols {
				l = append(l, fmt.Sprint(at)+s)
			}
			if got := strings.Join(l, " "); got != want {
				t.Errorf("%s: %s", source, got)
			}
		}
	}
	b := []byte("a b c")
	symbols := Symbols(b)
	b[2] = '!'
	n := 0
	for at := range symbols {
		n++
		if at == 2 {
			break
		}
	}
	if n != 2 {
		t.Error(n)
	}
	if !slices.Equal(b, []byte("a ! c")) {
		t.Error("changed")
	}
}

func TestDeep(t *testing.T) {
	for _, s := range []string{"(", "~", "a[", "{", "f("} {
		if _, at, e := Expr([]byte(strings.Repeat(s, 65535/len(s)))); e != api.ErrBytes || at != 65535/len(s)*len(s) {
			t.Error(s, at, e)
		}
	}
}
