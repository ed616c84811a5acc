package typing

import (
	"fmt"
	"strings"
	"testing"

	"selfsame/api"
	"selfsame/compile"
	"selfsame/samples"
	"selfsame/symfile"
	"selfsame/syntax"
)

func basic(i int) api.Ref { return api.Ref{Index: i} }

func own(i int) api.Ref { return api.Ref{Index: 16 + i} }

func of(m, i int) api.Ref { return api.Ref{Module: m, Index: 16 + i} }

// P17.1, P0.1: what compile says of the same source
func TestSamples(t *testing.T) {
	for _, source := range samples.Right() {
		f, e := Source([]byte(source))
		m := compile.Source([]byte(source), nil)
		if e != api.OK || !symfile.Same(f, m.Face) {
			t.Errorf("%s: %v %v", source, e, f)
		}
		n, _, _ := syntax.Parse([]byte(source))
		if g, e := Check(n); e != api.OK || !symfile.Same(f, g) {
			t.Errorf("%s: %v", source, e)
		}
	}
	for _, source := range samples.Wrong() {
		n, _, parsed := syntax.Parse([]byte(source))
		want := api.ErrState
		if parsed != api.OK {
			want = parsed
		} else if strings.Contains(source, "IMPORT") {
			want = api.ErrNone
		}
		if f, e := Source([]byte(source)); e != want || f.Name != "" {
			t.Errorf("%s: %v", source, e)
		}
		if want == api.ErrState {
			if _, e := Check(n); e != want {
				t.Errorf("%s: %v", source, e)
			}
		}
	}
}

func source(t *testing.T, text string, faces ...api.Face) api.Face {
	t.Helper()
	f, e := Source([]byte(text), faces...)
	if e != api.OK {
		t.Fatal(text, e)
	}
	return f
}

func key(t *testing.T, f api.Face) uint32 {
	t.Helper()
	_, k, e := symfile.Bytes(f)
	if e != api.OK {
		t.Fatal(f, e)
	}
	return k
}

// P17.1: a face
func TestFace(t *testing.T) {
	f := source(t, "MODULE M; CONST c* = -1; d = 2; s* = \"q\"; b* = TRUE; e* = {31}; TYPE U = POINTER TO T; T* = RECORD n: U; a: ARRAY 3 OF CHAR END; H = RECORD END; I* = INTEGER; "+
		"VAR x: CHAR; y*, z: INTEGER; w*: ARRAY 2 OF T; v*: RECORD END; PROCEDURE P; END P; PROCEDURE Q*(a: T; VAR b, c: ARRAY OF U; d: ARRAY OF CHAR): BYTE; RETURN 1 END Q; PROCEDURE R*; END R; END M.")
	want := api.Face{Name: "M", Types: []api.FaceType{
		{Form: api.FormRecord, Size: 8, Fields: []api.FaceField{{Name: "n", Base: own(1)}, {Name: "a", Offset: 4, Base: own(2)}}}, {Form: api.FormPointer, Base: own(0)}, {Form: api.FormArray, Length: 3, Size: 4, Base: basic(3)},
		{Form: api.FormArray, Length: 2, Size: 16, Base: own(0)}, {Form: api.FormRecord, Size: 4}, {Form: api.FormOpen, Base: own(1)}, {Form: api.FormOpen, Base: basic(3)}},
		Objects: []api.FaceObject{{Class: api.ClassConst, Name: "c", Base: basic(1), Value: 1<<32 - 1}, {Class: api.ClassConst, Name: "s", Base: basic(3), Value: 'q'}, {Class: api.ClassConst, Name: "b", Base: basic(2), Value: 1}, {Class: api.ClassConst, Name: "e", Base: basic(5), Value: 1 << 31},
			{Class: api.ClassType, Name: "T", Base: own(0)}, {Class: api.ClassType, Name: "I", Base: basic(1)}, {Class: api.ClassVar, Name: "y", Base: basic(1), Value: 4}, {Class: api.ClassVar, Name: "w", Base: own(3), Value: 12}, {Class: api.ClassVar, Name: "v", Base: own(4), Value: 28},
			{Class: api.ClassProc, Name: "Q", Base: basic(4), Value: 1, Params: []api.FaceParam{{Base: own(0)}, {Var: true, Base: own(5)}, {Var: true, Base: own(5)}, {Base: own(6)}}}, {Class: api.ClassProc, Name: "R", Value: 2}}}
	if !symfile.Same(f, want) {
		t.Error(f)
	}
	if f := source(t, "MODULE M; VAR x*: INTEGER; BEGIN x := 1 END M."); !symfile.Same(f, api.Face{Name: "M", Objects: []api.FaceObject{{Class: api.ClassVar, Name: "x", Base: basic(1)}}}) {
		t.Error(f)
	}
}

const (
	moduleA = "MODULE A; TYPE R* = RECORD x: INTEGER END; P* = POINTER TO R; A = ARRAY 3 OF R; VAR v*: A; i*: INTEGER; p*: P; CONST END A."
	textA   = "MODULE A; CONST c* = 5; TYPE R* = RECORD x: INTEGER END; P* = POINTER TO R; A = ARRAY 3 OF R; VAR v*: A; i*: INTEGER; p*: P; PROCEDURE Put*(VAR r: R; s: ARRAY OF CHAR); END Put; PROCEDURE Get*(): P; RETURN p END Get; END A."
	textB   = "MODULE B; IMPORT A; TYPE Q* = RECORD a: A.P; b: A.R END; VAR r*: A.R; PROCEDURE Take*(q: Q); END Take; END B."
)

// P17.1: imports
func TestImports(t *testing.T) {
	a := source(t, textA)
	b := source(t, textB, a)
	if len(b.Imports) != 1 || b.Imports[0] != (api.Import{Name: "A", Key: key(t, a)}) || b.Types[0].Fields[0].Base != of(1, 1) || b.Types[0].Fields[1].Base != of(1, 0) || b.Objects[1].Base != of(1, 0) {
		t.Error(b)
	}
	for body, want := range map[string]api.Errno{
		"VAR r: A.R; q: B.Q; BEGIN A.Put(r, \"x\"); q.b.x := A.c; q.a := A.p; A.p.x := 1; A.Get; B.Take(q)": api.ErrState,
		"VAR r: A.R; q: B.Q; BEGIN A.Put(r, \"x\"); q.b.x := A.c; q.a := A.p; A.p.x := 1; B.Take(q)":        0,
		"VAR q: B.Q; BEGIN q.a := A.Get(); IF q.a = A.p THEN HALT(A.v[1].x) END":                            0,
		"TYPE A = CHAR;":          api.ErrState,
		"BEGIN A.i := 1":          api.ErrState,
		"BEGIN A.v[0].x := 1":     api.ErrState,
		"BEGIN INC(A.i)":          api.ErrState,
		"BEGIN A.p := NIL":        api.ErrState,
		"BEGIN A.Put(B.r, \"\")":  api.ErrState,
		"BEGIN A.Put(A.p^, \"\")": 0,
		"BEGIN HALT(A.A)":         api.ErrState,
		"VAR x: A.A;":             api.ErrState,
		"VAR x: A.R.x;":           api.ErrBytes,
		"VAR r: RECORD x: INTEGER END; BEGIN A.Put(r, \"\")": api.ErrState,
		"BEGIN HALT(A)": api.ErrState,
		"BEGIN A":       api.ErrState,
		"CONST d = A.c + 1; VAR x: ARRAY d OF A.P; BEGIN HALT(x[0].x DIV A.c)": 0,
		"PROCEDURE P(A: INTEGER); BEGIN HALT(A) END P;":                        0,
	} {
		text := "MODULE C; IMPORT A, B; " + body + " END C."
		if _, e := Source([]byte(text), a, b); e != want {
			t.Error(body, e)
		}
	}
	other := a
	other.Objects = a.Objects[1:]
	lost := b
	lost.Types = append([]api.FaceType{{Form: api.FormPointer, Base: of(1, 9)}}, b.Types...)
	lost.Objects = nil
	open := b
	open.Objects = []api.FaceObject{{Class: api.ClassVar, Name: "x", Base: of(1, 3)}}
	over := api.Face{Name: "D", Imports: []api.Import{{Name: "B", Key: key(t, b)}}}
	for i, x := range []struct {
		text  string
		faces []api.Face
		want  api.Errno
	}{
		{"MODULE C; IMPORT B; END C.", []api.Face{a, b}, 0}, {"MODULE C; IMPORT D; END C.", []api.Face{b, over, a}, 0}, {"MODULE C; IMPORT D; END C.", []api.Face{b, over}, api.ErrNone}, {"MODULE C; IMPORT B; END C.", []api.Face{b}, api.ErrNone}, {"MODULE C; IMPORT B; END C.", []api.Face{b, other}, api.ErrNone},
		{"MODULE C; IMPORT A; END C.", []api.Face{b, a}, 0}, {"MODULE C; IMPORT B; x", []api.Face{b}, api.ErrBytes}, {"MODULE C; IMPORT B; BEGIN x := 1 END C.", []api.Face{b}, api.ErrNone}, {"MODULE C; IMPORT B; END C.", []api.Face{a, lost}, api.ErrNone}, {"MODULE C; IMPORT B; END C.", []api.Face{a, open}, api.ErrNone},
		{"MODULE C; IMPORT A, A; END C.", []api.Face{a}, api.ErrState}, {"MODULE A; IMPORT A; END A.", []api.Face{a}, api.ErrState}, {"MODULE A; IMPORT A; END A.", nil, api.ErrNone}, {"MODULE C; END", []api.Face{a, a}, api.ErrArg}, {"MODULE C; END", []api.Face{{}}, api.ErrArg}, {strings.Repeat(" ", 65536), []api.Face{{}}, api.ErrArg}, {strings.Repeat(" ", 65536), nil, api.ErrLong},
		{"MODULE A; IMPORT B; VAR v: B.Q; r: RECORD x: INTEGER END; BEGIN r.x := v.b.x END A.", []api.Face{a, b}, 0},
	} {
		if f, e := Source([]byte(x.text), x.faces...); e != x.want || e != api.OK && f.Name != "" {
			t.Error(i, e)
		}
	}
	n, _, _ := syntax.Parse([]byte("MODULE C; IMPORT B; END C."))
	if _, e := Check(n, a, b); e != api.OK {
		t.Error(e)
	}
	if _, e := Check(n, a); e != api.ErrNone {
		t.Error(e)
	}
	if _, e := Check(n.Kids[0], a, b); e != api.ErrBytes {
		t.Error(e)
	}
	if _, e := Check(n.Kids[0], a, a); e != api.ErrArg {
		t.Error(e)
	}
	if _, e := Source([]byte(moduleA)); e != api.ErrBytes {
		t.Error(e)
	}
	e := source(t, "MODULE E; IMPORT B, A; TYPE T* = B.Q; VAR a*: A.P; b*: B.Q; END E.", a, b)
	if fmt.Sprint(e.Imports) != fmt.Sprint([]api.Import{{Name: "B", Key: key(t, b)}, {Name: "A", Key: key(t, a)}}) || e.Objects[0].Base != of(1, 0) || e.Objects[1].Base != of(2, 1) {
		t.Error(e)
	}
}

// P17.1: NIL's own type, which a face may name
func TestNilType(t *testing.T) {
	n := api.Face{Name: "N", Types: []api.FaceType{{Form: api.FormPointer, Base: basic(1)}}, Objects: []api.FaceObject{{Class: api.ClassType, Name: "T", Base: basic(6)}, {Class: api.ClassType, Name: "P", Base: own(0)}, {Class: api.ClassProc, Name: "Q", Value: 1, Params: []api.FaceParam{{Base: basic(6)}}}, {Class: api.ClassProc, Name: "V", Value: 2, Params: []api.FaceParam{{Var: true, Base: basic(6)}}}}}
	bytes, _, _ := symfile.Bytes(n)
	files := func(string) ([]byte, bool) { return bytes, true }
	for body, want := range map[string]api.Errno{"x := NIL": api.ErrState, "x := x": api.ErrState, "p := x": 0, "N.Q(NIL)": api.ErrState, "N.Q(x)": api.ErrState, "N.V(x)": api.ErrState, "p^ := 5; NEW(p); INC(p^)": 0, "p.x := 5": api.ErrState, "IF x = NIL THEN END": 0, "IF (x # x) OR (NIL = x) THEN END": 0, "IF x = p THEN END": 0, "IF x < x THEN END": api.ErrState, "IF x = 0 THEN END": api.ErrState} {
		text := "MODULE M; IMPORT N; VAR x: N.T; p: N.P; BEGIN " + body + " END M."
		_, e := Source([]byte(text), n)
		m := compile.Source([]byte(text), files)
		if e != want || (m.Err == 0) != (e == api.OK) || m.Err > 59 {
			t.Error(body, e, m.Err)
		}
	}
}

// P17.2
func TestConstant(t *testing.T) {
	for text, want := range map[string]int64{
		"1 + 2 * 3": 7, "-7 DIV 2": -3, "(-7) DIV 2": -4, "(-7) MOD 2": 1, "2147483647 + 1": -1 << 31, "-80000000H": -1 << 31, "ABS(80000000H)": -1 << 31, "ABS(-5)": 5, "LSL(1, 33)": 2, "ASR(-8, 1)": -4, "LSL(3, -31)": 6, "ORD(\"a\")": 97, "ORD({0, 31})": 1<<31 + 1 - 1<<32, "ORD(TRUE)": 1, "ORD(7)": 7, "65536 * 65536": 0, "0FFFFFFFFH MOD 10": 9, "(1)": 1, "+5": 5,
	} {
		n, _, _ := syntax.Expr([]byte(text))
		if r, v, e := Constant(n); r != basic(api.TypeInteger) || int64(int32(v)) != want || e != api.OK {
			t.Error(text, r, int32(v), e)
		}
	}
	for text, want := range map[string]api.Ref{"\"a\"": basic(3), "41X": basic(3), "CHR(321)": basic(3), "TRUE": basic(2), "~TRUE OR TRUE & ~FALSE": basic(2), "ODD(3)": basic(2), "{1} + {2, 33}": basic(5), "{}": basic(5)} {
		n, _, _ := syntax.Expr([]byte(text))
		r, v, e := Constant(n)
		values := map[string]uint32{"\"a\"": 97, "41X": 65, "CHR(321)": 65, "TRUE": 1, "~TRUE OR TRUE & ~FALSE": 1, "ODD(3)": 1, "{1} + {2, 33}": 6, "{}": 0}
		if r != want || v != values[text] || e != api.OK {
			t.Error(text, r, v, e)
		}
	}
	for _, text := range []string{"NIL", "1 = 1", "1 IN {1}", "x", "\"ab\"", "\"\"", "1 DIV 0", "1 MOD 0", "LEN(x)", "OLD(\"a\")", "EOF(1)", "1 + TRUE", "~1", "ABS(TRUE)", "{TRUE}", "INTEGER", "ABS", "ABS()", "HALT(1)", "(1 = 1)", "TRUE & (1 = 1)", "FALSE & (1 DIV 0 = 1)", "-{1}", "1 / 1", "{1} DIV {1}"} {
		n, at, e := syntax.Expr([]byte(text))
		if e != api.OK {
			t.Fatal(text, at)
		}
		if r, v, e := Constant(n); r != (api.Ref{}) || v != 0 || e != api.ErrState {
			t.Error(text, r, v, e)
		}
	}
	if _, _, e := Constant(api.Node{}); e != api.ErrArg {
		t.Error(e)
	}
}

// P17.1: the limits that play a part, and those that do not
func TestLimits(t *testing.T) {
	deep := strings.Repeat("(", 5000) + "1" + strings.Repeat(")", 5000)
	for text, want := range map[string]api.Errno{
		"VAR a: ARRAY 65535 OF INTEGER; b: ARRAY 65535 OF INTEGER;":                  0,
		"TYPE A = ARRAY 65535 OF INTEGER; R = RECORD a: A; b: INTEGER END;":          0,
		"TYPE A = ARRAY 65535 OF INTEGER; R = RECORD a: A; b: INTEGER; c: CHAR END;": api.ErrState,
		"TYPE A = ARRAY 65536 OF CHAR;":                                              api.ErrState,
		"CONST c = " + deep + ";":                                                    0,
		"PROCEDURE P(a, b, c, d, e, f, g, h, i, j, k, l, m, n: CHAR); END P;":        0,
		"PROCEDURE P*(a, b, c, d, e, f, g, h, i, j, k, l, m, n: CHAR); END P;":       0,
	} {
		if _, e := Source([]byte("MODULE M; " + text + " END M.")); e != want {
			t.Errorf("%.60s: %v", text, e)
		}
	}
}
