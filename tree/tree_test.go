package tree

import (
	"slices"
	"strings"
	"testing"

	"selfsame/api"
)

func of(kind api.NodeKind, kids ...api.Node) api.Node { return api.Node{Kind: kind, Kids: kids} }

func named(kind api.NodeKind, name string, kids ...api.Node) api.Node {
	return api.Node{Kind: kind, Name: name, Kids: kids}
}

func marked(n api.Node) api.Node {
	n.Mark = true
	return n
}

func id(name string) api.Node { return named(api.NodeName, name) }

func num(n uint32) api.Node { return api.Node{Kind: api.NodeNumber, Value: n} }

func op(name string, a, b api.Node) api.Node { return named(api.NodeOp, name, a, b) }

// sample is a module with a node of each kind.
func sample() api.Node {
	record := of(api.NodeRecord, of(api.NodeFields, id("a"), id("b"), id("CHAR")), of(api.NodeFields, id("c"), of(api.NodePointer, id("T"))))
	proc := marked(named(api.NodeProc, "P", of(api.NodeParams, marked(of(api.NodeParam, id("x"), id("y"), id("T"))), of(api.NodeParam, id("z"), of(api.NodeOpen, named(api.NodeQual, "A", id("B"))))), id("INTEGER"),
		of(api.NodeDecls, named(api.NodeConst, "k", num(1)), of(api.NodeVar, named(api.NodeDef, "l"), id("SET"))), of(api.NodeStmts), of(api.NodeNil)))
	x := named(api.NodeField, "f", of(api.NodeIndex, of(api.NodeDeref, id("v")), op("+", num(1), num(2))))
	stmts := of(api.NodeStmts, of(api.NodeAssign, x, op("=", of(api.NodeTrue), of(api.NodeParen, named(api.NodeSign, "-", op("*", num(3), of(api.NodeFalse)))))),
		of(api.NodeCall, x, named(api.NodeString, "a b"), of(api.NodeSet, num(4), of(api.NodeNot, of(api.NodeNot, x)))),
		of(api.NodeIf, of(api.NodeTrue), of(api.NodeStmts), of(api.NodeCall, x), of(api.NodeStmts), of(api.NodeStmts)), of(api.NodeIf, of(api.NodeTrue), of(api.NodeStmts)),
		of(api.NodeWhile, api.Node{Kind: api.NodeChar, Value: 255}, of(api.NodeStmts)), of(api.NodeRepeat, of(api.NodeStmts), of(api.NodeTrue)))
	return named(api.NodeModule, "M", of(api.NodeImports, id("A"), id("B")),
		of(api.NodeDecls, marked(named(api.NodeConst, "c", num(1<<32-1))), named(api.NodeType, "T", record), marked(named(api.NodeType, "U", of(api.NodeArray, num(2), id("T")))), of(api.NodeVar, marked(named(api.NodeDef, "v")), named(api.NodeDef, "w"), id("T")), proc,
			named(api.NodeProc, "Q", of(api.NodeParams), of(api.NodeNone), of(api.NodeDecls), of(api.NodeStmts), of(api.NodeNone))), stmts)
}

// P15.1, P15.3
func TestMay(t *testing.T) {
	m := sample()
	if !May(m) {
		t.Fatal("the sample")
	}
	if May(m.Kids[1]) || MayStmts(m) || !MayStmts(m.Kids[2]) || MayType(m) || MayExpr(m) || Level(m) != -1 {
		t.Error("kinds")
	}
	// each node with something that it does not name, and each without its last kid
	nodes := 0
	var spoil func(n *api.Node, inner bool)
	spoil = func(n *api.Node, inner bool) {
		nodes++
		was := *n
		try := func(what string, may bool) {
			if May(m) != may {
				t.Error(what, was.Kind, was.Name, !may)
			}
			*n = was
		}
		n.Value++
		try("value", n.Kind == api.NodeNumber)
		n.Mark = !n.Mark
		free := n.Kind == api.NodeParam || !inner && (n.Kind == api.NodeConst || n.Kind == api.NodeType || n.Kind == api.NodeDef || n.Kind == api.NodeProc)
		try("mark", free)
		n.Name += "BEGIN"
		try("name", n.Name != "BEGIN" && n.Kind != api.NodeSign && n.Kind != api.NodeOp)
		n.Name += "!"
		try("name", n.Kind == api.NodeString)
		n.Kids = append(slices.Clone(n.Kids), of(api.NodeModule))
		try("kid", false)
		n.Kind = 0
		try("kind", false)
		n.Kind = 39
		try("kind", false)
		for i := range n.Kids {
			spoil(&n.Kids[i], inner || n.Kind == api.NodeProc)
		}
	}
	spoil(&m, false)
	if nodes != Size(m) {
		t.Error(nodes)
	}
	for i, n := range []api.Node{
		named(api.NodeModule, "M", of(api.NodeImports), of(api.NodeDecls)),
		named(api.NodeModule, "M", of(api.NodeImports), of(api.NodeDecls, of(api.NodeVar, named(api.NodeDef, "a"), id("T")), named(api.NodeConst, "c", num(1))), of(api.NodeStmts)),
		named(api.NodeModule, "M", of(api.NodeImports), of(api.NodeDecls, of(api.NodeVar, id("T"))), of(api.NodeStmts)),
		named(api.NodeModule, "M", of(api.NodeImports), of(api.NodeDecls, named(api.NodeType, "c", of(api.NodeRecord, of(api.NodeFields, id("T"))))), of(api.NodeStmts)),
		named(api.NodeModule, "M", of(api.NodeImports), of(api.NodeDecls, named(api.NodeProc, "Q", of(api.NodeParams, of(api.NodeParam, id("T"))), of(api.NodeNone), of(api.NodeDecls), of(api.NodeStmts), of(api.NodeNone))), of(api.NodeStmts)),
		named(api.NodeModule, "M", of(api.NodeImports), of(api.NodeDecls), of(api.NodeStmts, of(api.NodeIf, of(api.NodeTrue)))),
		named(api.NodeModule, "M", of(api.NodeImports), of(api.NodeDecls), of(api.NodeStmts, of(api.NodeIf))),
		named(api.NodeModule, "M", of(api.NodeImports), of(api.NodeDecls), of(api.NodeStmts, of(api.NodeCall))),
		named(api.NodeModule, "M", of(api.NodeImports), of(api.NodeDecls), of(api.NodeStmts, id("x"))),
		named(api.NodeModule, "M", of(api.NodeImports), of(api.NodeDecls), of(api.NodeStmts, of(api.NodeCall, num(1)))),
		{},
	} {
		if May(n) {
			t.Error(i)
		}
	}
}

// P15.1
func TestLevel(t *testing.T) {
	product := op("DIV", id("a"), id("b"))
	sum := op("OR", product, product)
	relation := op("IN", sum, sum)
	not := of(api.NodeNot, id("a"))
	for i, x := range []struct {
		n    api.Node
		want int
	}{
		{id("a"), 0}, {num(7), 0}, {named(api.NodeString, ""), 0}, {named(api.NodeString, strings.Repeat("x", 63)), 0}, {named(api.NodeString, strings.Repeat("x", 64)), -1}, {named(api.NodeString, "\""), -1}, {named(api.NodeString, "\x7f"), -1}, {named(api.NodeString, "\n"), -1},
		{api.Node{Kind: api.NodeChar, Value: 256}, -1}, {product, 1}, {sum, 2}, {relation, 3}, {not, 0}, {of(api.NodeNot, product), -1}, {of(api.NodeParen, relation), 0}, {op("*", product, id("c")), 1}, {op("*", id("c"), product), -1}, {op("*", sum, id("c")), -1}, {op("&", not, not), 1},
		{op("+", sum, product), 2}, {op("+", product, sum), -1}, {op("+", relation, id("a")), -1}, {op("-", named(api.NodeSign, "-", product), product), 2}, {op("-", product, named(api.NodeSign, "-", product)), -1}, {named(api.NodeSign, "-", sum), -1}, {named(api.NodeSign, "*", product), -1}, {named(api.NodeSign, "+", named(api.NodeSign, "+", product)), -1},
		{op("=", sum, sum), 3}, {op("<", relation, sum), -1}, {op("<", sum, relation), -1}, {op("<>", sum, sum), -1}, {op("", sum, sum), -1}, {op("#", named(api.NodeSign, "-", id("a")), named(api.NodeSign, "-", id("a"))), 3},
		{named(api.NodeQual, "A", id("b")), -1}, {of(api.NodeIndex, num(1), num(1)), -1}, {of(api.NodeIndex, of(api.NodeCall, id("f")), num(1)), -1}, {of(api.NodeCall, id("f"), relation, relation), 0}, {of(api.NodeSet, relation), 0}, {of(api.NodeStmts), -1}, {op("+", num(1), op("*", num(2), num(3))), 2}, {op("*", op("+", num(1), num(2)), num(3)), -1}, {named(api.NodeOp, "+", num(1)), -1},
	} {
		if Level(x.n) != x.want || MayExpr(x.n) != (x.want >= 0) {
			t.Error(i, Level(x.n), x.want)
		}
	}
	if n := op("+", num(1), op("*", num(2), num(3))); Size(n) != 5 || Depth(n) != 3 {
		t.Error(Size(n), Depth(n))
	}
	for i, x := range []struct {
		n    api.Node
		want bool
	}{{id("T"), true}, {named(api.NodeQual, "A", id("T")), true}, {named(api.NodeQual, "A", num(1)), false}, {of(api.NodeOpen, id("T")), false}, {of(api.NodeArray, num(1), id("T")), true}, {of(api.NodeArray, id("T")), false}, {of(api.NodeRecord), true}, {of(api.NodePointer, of(api.NodeRecord)), true}, {num(1), false}, {id("IF"), false}} {
		if MayType(x.n) != x.want {
			t.Error(i)
		}
	}
}

// P15.1
func TestNames(t *testing.T) {
	for s, want := range map[string]bool{"a": true, "Z9z": true, "": false, "9": false, "a_": false, "é": false, "END": false, "End": true, "INTEGER": true, "WHILE": false, "ARRAY": false, "WHILEX": true, "abcdefghijklmno": true, "abcdefghijklmnop": false} {
		if MayName(s) != want {
			t.Error(s)
		}
	}
	words := strings.Fields("ARRAY BEGIN CONST DIV DO ELSE ELSIF END FALSE IF IMPORT IN MOD MODULE NIL OF OR POINTER PROCEDURE RECORD REPEAT RETURN THEN TO TRUE TYPE UNTIL VAR WHILE")
	for _, s := range words {
		if !Keyword(s) || Keyword(strings.ToLower(s)) {
			t.Error(s)
		}
	}
	if Keyword("") || Keyword("ARRAY BEGIN") || Keyword("ABS") {
		t.Error("no keywords")
	}
	if got := strings.Join(Names(sample()), " "); got != "M A B c T a b CHAR U v w P x y z INTEGER k l SET Q f" {
		t.Error(got)
	}
	if got := Names(of(0, named(api.NodeString, "s"), named(0, "n"), named(api.NodeOp, "o", named(99, "n"), named(api.NodeSign, "q", named(7, "!"))))); !slices.Equal(got, []string{"n", "!"}) {
		t.Error(got)
	}
}

// P15.2, P15.3
func TestWalk(t *testing.T) {
	n := of(7, named(1, "a", of(2), of(3)), of(4, of(5, of(6))))
	walk := Walk(n)
	n.Kids[0].Kind = 9 // what was handed in is not kept
	for range 2 {
		var kinds, depths []int
		for d, k := range walk {
			kinds, depths = append(kinds, int(k.Kind)), append(depths, d)
		}
		if !slices.Equal(kinds, []int{7, 1, 2, 3, 4, 5, 6}) || !slices.Equal(depths, []int{0, 1, 2, 2, 1, 2, 3}) {
			t.Error(kinds, depths)
		}
		for _, k := range walk {
			k.Kids[0].Kind = 0 // what was handed out is the caller's
			break
		}
	}
	for most := range 7 {
		i := 0
		for range Walk(n) {
			if i == most {
				break
			}
			i++
		}
		if i != most {
			t.Error(i)
		}
	}
	if Size(n) != 7 || Depth(n) != 4 || Size(api.Node{}) != 1 || Depth(api.Node{}) != 1 {
		t.Error(Size(n), Depth(n))
	}
	m := sample()
	size, depth := 0, 0
	for d := range Walk(m) {
		size++
		depth = max(depth, d+1)
	}
	if size != Size(m) || depth != Depth(m) {
		t.Error(size, depth)
	}
}

// P15.2
func TestSame(t *testing.T) {
	m := sample()
	c := Copy(m)
	if !Same(m, c) || !Same(of(1), api.Node{Kind: 1, Kids: []api.Node{}}) {
		t.Error("not the same")
	}
	var change func(n *api.Node)
	change = func(n *api.Node) {
		was := *n
		for i := range 5 {
			switch i {
			case 0:
				n.Kind++
			case 1:
				n.Name += "x"
			case 2:
				n.Value++
			case 3:
				n.Mark = !n.Mark
			case 4:
				n.Kids = append(slices.Clone(n.Kids), api.Node{})
			}
			if Same(m, c) || Same(c, m) {
				t.Error(i, was)
			}
			*n = was
		}
		for i := range n.Kids {
			change(&n.Kids[i])
		}
	}
	change(&c)
	if !Same(m, sample()) {
		t.Error("Copy shares memory")
	}
	deep := api.Node{}
	for range 200000 {
		deep = of(api.NodeParen, deep)
	}
	if Depth(deep) != 200001 || !Same(deep, Copy(deep)) || MayExpr(deep) || len(Names(deep)) != 0 {
		t.Error("deep")
	}
}
