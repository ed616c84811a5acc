package judge

import (
	"strings"
	"testing"

	"selfsame/compile"
)

// P24.1, P0.1: modest sources that need much code, many registers
func TestModestCode(t *testing.T) {
	head := "MODULE M;TYPE P=POINTER TO R;R=RECORD n:P;a:ARRAY 9 OF INTEGER END;VAR i:INTEGER;s:SET;b:BOOLEAN;p:P;a:ARRAY 9 OF INTEGER;h:ARRAY 9 OF ARRAY 9 OF INTEGER;PROCEDURE f():INTEGER;RETURN 1 END f;PROCEDURE g(x,y:ARRAY OF INTEGER;z:BOOLEAN):INTEGER;RETURN 1 END g;PROCEDURE k(x,y,z:BOOLEAN);END k;"
	for _, x := range []struct{ begin, again, end string }{
		{"b:=s=s+s*{i", ",i", "}"}, {"b:=s=s+s*{i,i+i*f()", "*f()", "}"}, {"b:=i=i+i*LSL(i,i+i*f()", "*f()", ")"}, {"b:=i=i+i*p.a[i+i*f()", "*f()", "]"}, {"i:=i+i*g(a,a,i=i+i*f()", "*f()", ")"}, {"i:=i", "-i", ""}, {"s:=s", "/s", ""}, {"b:=b", "&b", ""}, {"b:=b", "&~b", ""}, {"b:=b", " OR b", ""},
		{"k(i=i,i=i,i=i)", ";k(i=i,i=i,i=i)", ""}, {"i:=i", ";b:=i=i", ""}, {"i:=i", "+a[i]", ""}, {"i:=i", "+h[i][i]", ""}, {"p", ".n", ":=p"}, {"i:=i", " DIV i", ""}, {"i:=i", "+f()", ""}, {"b:=i=i+i*(i+i*f()", "*f()", ")"}, {"s:={i", ",f()", "}"}, {"s:={i", ",a[i]", "}"}, {"s:={i", ",p.a[i]", "}"}, {"i:=i", ";NEW(p)", ""}, {"i:=i", ";i:=g(a,a,i=i)", ""}, {"i:=i", ";INC(a[i])", ""}, {"i:=OLD(\"\")", "+OLD(\"\")", ""}, {"b:=i IN s", ";b:=i IN s", ""}, {"i:=i", "*ORD(i=i)", ""},
	} {
		room := 4000 - len(head) - len("BEGIN "+x.begin+x.end+" END M.")
		again := strings.Repeat(x.again, room/len(x.again))
		source := []byte(head + "BEGIN " + x.begin + again + x.end + " END M.")
		m := compile.Source(source, nil)
		if !Modest(source) || m.Err == 65 || m.Err == 66 || m.Err == 71 || m.Err > 0 && m.Err < 60 {
			t.Error(x.begin, x.again, Modest(source), m.Err, len(m.Object.Code))
		}
		if len(m.Object.Code) > 14000 {
			t.Error("near the limit", x.begin, x.again, len(m.Object.Code))
		}
	}
}

// modest makes an expression with so many more of what makes it immodest, with all that holds registers ahead of it.
func (r *random) modest(t *rtype, more int) string {
	last := r.modestFactor(integer, more)
	switch t {
	case set:
		return "s + s * " + r.modestFactor(set, more)
	case boolean:
		switch r.n(3) {
		case 0:
			return "i IN s + s * " + r.modestFactor(set, more)
		case 1:
			return "s = s + s * " + r.modestFactor(set, more)
		}
		return "i = i + i * " + last
	}
	return "i + i * " + last
}

func (r *random) modestFactor(t *rtype, more int) string {
	if more == 0 {
		if t == set {
			return "s"
		}
		return r.one("i", "p.v", "a")
	}
	if t == set {
		return r.one("{i, "+r.modest(integer, more-1)+", "+r.modest(integer, more-1)+"}", "("+r.modest(set, more-1)+")")
	}
	switch r.n(8) {
	case 0:
		return "(" + r.modest(integer, more-1) + ")"
	case 1:
		return "p.a[" + r.modest(integer, more-1) + "]"
	case 2:
		return "LSL(i, " + r.modest(integer, more-1) + ")"
	case 3:
		return "ORD(" + r.modest(boolean, more-1) + ")"
	case 4:
		return "g(x, x, " + r.modest(boolean, more-1) + ")"
	case 5:
		return "ORD(" + r.modest(set, more-1) + ")"
	case 6:
		return "g(x, p.a, " + r.modest(boolean, more-1) + ")"
	}
	return "f(p.w, i, " + r.modest(integer, more-1) + ")"
}

// P24.1, P0.1: no modest source is refused for registers
func TestModestRegisters(t *testing.T) {
	head := "MODULE M; TYPE P = POINTER TO R; R = RECORD n: P; v: INTEGER; a: ARRAY 9 OF INTEGER; w: P; b: BOOLEAN END; VAR i, a: INTEGER; s: SET; p: P; x: ARRAY 9 OF INTEGER; " +
		"PROCEDURE g(x, y: ARRAY OF INTEGER; z: BOOLEAN): INTEGER; RETURN 1 END g; PROCEDURE f(x: P; y, z: INTEGER): INTEGER; RETURN 1 END f; PROCEDURE k(x, y: ARRAY OF INTEGER; z: BOOLEAN); END k; BEGIN "
	r := &random{seed: 5}
	for range count(2000) {
		stmt := ""
		switch r.n(5) {
		case 0:
			stmt = "p.n.v := " + r.modest(integer, 2)
		case 1:
			stmt = "p.n.b := " + r.modest(boolean, 2)
		case 2:
			stmt = "k(x, p.a, " + r.modest(boolean, 1) + ")"
		case 3:
			stmt = "INC(p.v, " + r.modest(integer, 1) + ")"
		case 4:
			stmt = "p.a[" + r.modest(integer, 1) + "] := " + r.modest(integer, 2)
		}
		source := []byte(head + stmt + " END M.")
		m := compile.Source(source, nil)
		if !Modest(source) || m.Err != 0 {
			t.Error(stmt, Modest(source), m.Err)
		}
	}
}
