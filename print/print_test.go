package print

import (
	"strings"
	"testing"

	"selfsame/api"
	"selfsame/samples"
	"selfsame/syntax"
	"selfsame/tree"
)

// P23.1, P23.2, P23.3
func TestPlain(t *testing.T) {
	for source, want := range map[string]string{
		"MODULE M;BEGIN x:=1 END M.": "MODULE M ;\nBEGIN x := 1 END M .\n",
		"MODULE M; BEGIN END M. x":   "MODULE M ;\nEND M .\n",
		"MODULE M; IMPORT A,B;CONST a*=1;b=0FFH;TYPE T=RECORD END;R*=RECORD a,b:CHAR;;c:ARRAY 3 OF A.T END;P=POINTER TO R;VAR x,y*:T;z:P;BEGIN;;p();q END M.":                  "MODULE M ;\nIMPORT A , B ;\nCONST a * = 1 ;\nb = 255 ;\nTYPE T = RECORD END ;\nR * = RECORD a , b : CHAR ;\nc : ARRAY 3 OF A . T END ;\nP = POINTER TO R ;\nVAR x , y * : T ;\nz : P ;\nBEGIN p ;\nq END M .\n",
		"MODULE M;PROCEDURE P*();VAR x:T;BEGIN END P;PROCEDURE Q():A.B;RETURN 1 END Q;PROCEDURE R(VAR a,b:T;c:ARRAY OF A.B);PROCEDURE S;END S;BEGIN S;S RETURN x END R;END M.": "MODULE M ;\nPROCEDURE P * ;\nVAR x : T ;\nEND P ;\nPROCEDURE Q ( ) : A . B ;\nRETURN 1 END Q ;\nPROCEDURE R ( VAR a , b : T ;\nc : ARRAY OF A . B ) ;\nPROCEDURE S ;\nEND S ;\nBEGIN S ;\nS RETURN x END R ;\nEND M .\n",
	} {
		b, e := Plain([]byte(source))
		if string(b) != want || e != api.OK {
			t.Errorf("%q %v", b, e)
		}
	}
	for _, source := range samples.Right() {
		n, _, _ := syntax.Parse([]byte(source))
		b, e := Module(n)
		m, _, f := syntax.Parse(b)
		if e != api.OK || f != api.OK || !tree.Same(m, n) {
			t.Errorf("%s: %q %v %v", source, b, e, f)
		}
		if c, e := Plain(b); string(c) != string(b) || e != api.OK {
			t.Errorf("%q %v", c, e)
		}
		if c, e := Plain([]byte(source)); string(c) != string(b) || e != api.OK {
			t.Errorf("%q %v", c, e)
		}
	}
	for source, want := range map[string]api.Errno{"": api.ErrBytes, "MODULE M; END N.": api.ErrBytes, strings.Repeat(" ", 65536): api.ErrLong, "MODULE M;BEGIN " + strings.Repeat("a;", 32000) + "END M.": api.ErrLong} {
		if b, e := Plain([]byte(source)); b != nil || e != want {
			t.Errorf("%.30s %v", source, e)
		}
	}
}

// P23.1, P23.3
func TestParts(t *testing.T) {
	for source, want := range map[string]string{
		"1+2*-": "", "-a*b+c=(d-1)": "- a * b + c = ( d - 1 )", "~ ~x&f()OR g(1,\"a b\")": "~ ~ x & f ( ) OR g ( 1 , \"a b\" )", "{1,{}}IN NIL": "{ 1 , { } } IN NIL", "a.b[1]^.c": "a . b [ 1 ] ^ . c", "TRUE#FALSE": "TRUE # FALSE", "2147483647": "2147483647", "80000000H": "080000000H", "0FFFFFFFFH": "0FFFFFFFFH", "0AX": "00AX", "0FFX": "0FFX", "\"\"": "\"\"", "0": "0", "007": "7",
	} {
		n, _, e := syntax.Expr([]byte(source))
		if want == "" {
			if e != api.ErrBytes {
				t.Error(source, e)
			}
			continue
		}
		s, f := Expr(n)
		m, _, _ := syntax.Expr([]byte(s))
		if s != want || e != api.OK || f != api.OK || !tree.Same(m, n) {
			t.Errorf("%s: %q %v", source, s, e)
		}
	}
	for source, want := range map[string]string{
		"": "", ";a;;": "a", "a:=b;c(1);d()": "a := b ;\nc ( 1 ) ;\nd", "IF a THEN ELSIF b THEN c;d ELSE END": "IF a THEN ELSIF b THEN c ;\nd ELSE END", "IF a & f() THEN ELSIF f(g()) THEN END": "IF a & f ( ) THEN ELSIF f ( g ( ) ) THEN END", "WHILE a DO END;REPEAT b UNTIL c": "WHILE a DO END ;\nREPEAT b UNTIL c", "a.b:=f()": "a . b := f ( )", "IF a THEN IF b THEN END END": "IF a THEN IF b THEN END END",
	} {
		n, _, e := syntax.Stmts([]byte(source))
		s, f := Stmts(n)
		m, _, _ := syntax.Stmts([]byte(s))
		if s != want || e != api.OK || f != api.OK || !tree.Same(m, n) {
			t.Errorf("%s: %q %v", source, s, e)
		}
	}
	n, _, _ := syntax.Parse([]byte("MODULE M; TYPE T = RECORD a: POINTER TO A.B; b: ARRAY 1+1 OF CHAR END; END M."))
	typ := n.Kids[1].Kids[0].Kids[0]
	if s, e := Type(typ); s != "RECORD a : POINTER TO A . B ;\nb : ARRAY 1 + 1 OF CHAR END" || e != api.OK {
		t.Errorf("%q %v", s, e)
	}
	_, a := Module(typ)
	_, b := Expr(typ)
	_, c := Type(n)
	_, d := Stmts(n)
	if a != api.ErrArg || b != api.ErrArg || c != api.ErrArg || d != api.ErrArg {
		t.Error(a, b, c, d)
	}
	long := api.Node{Kind: api.NodeName, Name: "a"}
	for range 32768 {
		long = api.Node{Kind: api.NodeDeref, Kids: []api.Node{long}}
	}
	if s, e := Expr(long); s != "" || e != api.ErrLong {
		t.Error(e)
	}
	if s, e := Expr(long.Kids[0]); len(s) != 65535 || e != api.OK {
		t.Error(len(s), e)
	}
	array := api.Node{Kind: api.NodeArray, Kids: []api.Node{long, {Kind: api.NodeName, Name: "T"}}}
	stmts := api.Node{Kind: api.NodeStmts, Kids: []api.Node{{Kind: api.NodeCall, Kids: []api.Node{long}}}}
	_, a = Type(array)
	_, b = Stmts(stmts)
	if a != api.ErrLong || b != api.ErrLong {
		t.Error(a, b)
	}
}
