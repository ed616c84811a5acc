package compile

import (
	"fmt"
	"strings"
	"testing"

	"selfsame/api"
	"selfsame/object"
	"selfsame/run"
	"selfsame/samples"
	"selfsame/store"
	"selfsame/symfile"
)

const fuel = 3000000

// built is a store in which the sources were compiled, one behind the other.
func built(t *testing.T, sources ...string) *store.Store {
	t.Helper()
	s, _ := store.New(1 << 22)
	for _, source := range sources {
		s.Put("source", []byte(source))
		if code, pos, e := Build(s); code != 0 || e != api.OK {
			t.Fatalf("%s: error %d at %d %v: %q", source, code, pos, e, source[min(pos, len(source)):])
		}
	}
	s.Drop("source")
	return s
}

// ended tells how the last of the modules ended.
func ended(t *testing.T, sources ...string) string {
	t.Helper()
	s := built(t, sources...)
	name := strings.TrimSuffix(strings.Fields(sources[len(sources)-1])[1], ";")
	end, e := run.Go(s, api.Job{Module: name, Memory: 1 << 20, Fuel: fuel})
	if e != api.OK {
		return e.Error()
	}
	if end.Fuel {
		return "fuel"
	}
	return fmt.Sprint([]string{"none", "halt", "trap", "stack", "heap", "store", "memory", "word"}[end.Stop.Kind], " ", int32(end.Stop.Code))
}

// told compiles declarations and statements: how they ended.
func told(t *testing.T, decls, stmts string) string {
	t.Helper()
	return ended(t, "MODULE M; "+decls+" BEGIN "+stmts+" END M.")
}

func TestValues(t *testing.T) {
	decls := "CONST five = 5; TYPE R = RECORD c: CHAR; i: INTEGER; b: BYTE END; P = POINTER TO N; N = RECORD next: P; val: INTEGER END; " +
		"VAR i, j, k: INTEGER; b, d: BOOLEAN; c: CHAR; y: BYTE; s, u: SET; a: ARRAY 3 OF INTEGER; m: ARRAY 2 OF ARRAY 3 OF R; r: R; p, q: P; t: ARRAY 8 OF CHAR; " +
		"PROCEDURE F(x: INTEGER): INTEGER; BEGIN i := i + x RETURN i END F; PROCEDURE T(): BOOLEAN; BEGIN INC(j) RETURN TRUE END T; PROCEDURE L(x: ARRAY OF CHAR): INTEGER; RETURN LEN(x) END L; "
	for stmts, want := range map[string]string{
		"":                                  "halt 0",
		"HALT(3)":                           "halt 3",
		"HALT(-3)":                          "halt -3",
		"i := 7; HALT(i)":                   "halt 7",
		"i := 1000000; j := i * i; HALT(j)": "halt -727379968",
		"i := -7; HALT(i DIV 2)":            "halt -4",
		"i := -7; HALT(i MOD 2)":            "halt 1",
		"i := -7; HALT(i DIV 3)":            "halt -3",
		"i := -7; HALT(i MOD 3)":            "halt 2",
		"i := 7; j := 2; HALT(i DIV j)":     "halt 3",
		"i := 7; HALT(i DIV j)":             "trap 6",
		"i := 7; j := -1; HALT(i MOD j)":    "trap 6",
		"HALT(100000 DIV 70000 + 1000000 MOD 70000)":               "halt 20001",
		"i := 1000000; HALT(i MOD 70000)":                          "halt 20000",
		"i := 2; HALT(i - (i - 5) * 3)":                            "halt 11",
		"i := 5; HALT(10 - i)":                                     "halt 5",
		"i := 5; HALT(10 DIV i)":                                   "halt 2",
		"i := 3; HALT(-i + 1)":                                     "halt -2",
		"i := 3; HALT(+i + five)":                                  "halt 8",
		"i := 3; HALT(i + F(4))":                                   "halt 10",
		"i := 3; HALT(F(1) + F(2) * F(3))":                         "halt 58",
		"i := 3; HALT(a[i])":                                       "trap 1",
		"HALT(a[3])":                                               "trap 1",
		"i := -1; a[i] := 3":                                       "trap 1",
		"i := 2; a[i] := 9; a[1] := 4; HALT(a[2] * 10 + a[i - 1])": "halt 94",
		"i := 1; j := 2; m[i][j].i := 5; m[1][j].b := 300; HALT(m[1][2].i * 100 + m[i][j].b)": "halt 544",
		"r.c := \"a\"; r.b := 7; HALT(ORD(r.c) + r.b)":                                        "halt 104",
		"HALT(p.val)": "trap 4",
		"NEW(p); p.val := 5; q := p; NEW(p.next); p.next.val := 6; HALT(q.val * 10 + q^.next^.val)":             "halt 56",
		"NEW(p); IF p # NIL THEN HALT(1) END":                                                                   "halt 1",
		"IF NIL = p THEN HALT(1) END":                                                                           "halt 1",
		"IF p = q THEN HALT(1) END":                                                                             "halt 1",
		"IF (NIL = NIL) & ~(NIL # NIL) & ((p = NIL) = (NIL = NIL)) THEN HALT(1) END":                            "halt 1",
		"b := NIL # NIL; d := NIL = NIL; HALT(ORD(b) * 10 + ORD(d))":                                            "halt 1",
		"b := i = j; IF b THEN HALT(1) END":                                                                     "halt 1",
		"b := (i = j) = (c = 0X); IF b & ~d THEN HALT(1) END":                                                   "halt 1",
		"IF d & T() THEN HALT(9) END; HALT(j)":                                                                  "halt 0",
		"IF ~d OR T() THEN HALT(j) END":                                                                         "halt 0",
		"IF d OR T() THEN HALT(j) END":                                                                          "halt 1",
		"IF FALSE & T() OR TRUE & T() & T() THEN HALT(j) END":                                                   "halt 2",
		"b := TRUE & FALSE OR TRUE & TRUE; HALT(ORD(b))":                                                        "halt 1",
		"b := d OR T() & ~T(); HALT(ORD(b) * 10 + j)":                                                           "halt 2",
		"HALT(ORD(~(d OR b)) + ORD(~~d) * 2)":                                                                   "halt 1",
		"s := {1, i, 33, j + 4}; HALT(ORD(s))":                                                                  "halt 19",
		"s := {1, 2, 3}; u := {2, 5}; HALT(ORD(s * u) + ORD(s - u) * 100 + ORD(s + u) * 10000)":                 "halt 461004",
		"s := {1, 2, 3}; u := {2, 5}; HALT(ORD(s / u))":                                                         "halt 42",
		"s := {31}; i := 31; IF (i IN s) & (31 IN s) & (63 IN s) & ~(30 IN s) & (-1 IN s) THEN HALT(1) END":     "halt 1",
		"i := 200; y := i * 2; HALT(y)":                                                                         "halt 144",
		"y := 255; INC(y); HALT(y)":                                                                             "halt 0",
		"i := 5; INC(i, 3); DEC(i); HALT(i)":                                                                    "halt 7",
		"INC(a[F(1)], F(10)); HALT(a[1])":                                                                       "halt 11",
		"HALT(ABS(-5) + ORD(ODD(3)) + ORD(\"a\") + LSL(1, 33) + ASR(-8, 1))":                                    "halt 101",
		"i := -5; j := 33; HALT(ABS(i) + ORD(ODD(i)) + ORD(CHR(i)) + LSL(i, j) + ASR(i, j))":                    "halt 244",
		"HALT(LEN(a) + LEN(m[0]) * 10 + LEN(t) * 100)":                                                          "halt 833",
		"HALT(LEN(m[i + 2]))":                                                                                   "trap 1",
		"HALT(L(t) + L(\"abc\") + L(\"\") + L(\"x\"))":                                                          "halt 15",
		"WHILE i < 10 DO INC(i); j := j + i END; HALT(j)":                                                       "halt 55",
		"REPEAT INC(i) UNTIL (i = 10) OR d; HALT(i)":                                                            "halt 10",
		"IF i = 1 THEN HALT(1) ELSIF i = 0 THEN HALT(2) ELSE HALT(3) END":                                       "halt 2",
		"IF i = 1 THEN HALT(1) ELSIF i = 2 THEN HALT(2) ELSE HALT(3) END":                                       "halt 3",
		"ASSERT(i = 0); ASSERT(~d & (i = 0)); ASSERT(d OR T()); ASSERT((i = 1) OR d)":                           "trap 7",
		"ASSERT(TRUE); ASSERT(FALSE)":                                                                           "trap 7",
		"c := \"x\"; IF (c = \"x\") & (c < \"y\") & (\"a\" <= c) & (c # 0X) & (\"a\" < \"b\") THEN HALT(1) END": "halt 1",
		"HALT(80000000H)":              "halt -2147483648",
		"i := 70000; HALT(i - 140000)": "halt -70000",
		"WHILE TRUE DO END":            "fuel",
	} {
		if got := told(t, decls, stmts); got != want {
			t.Errorf("%s: %s, not %s", stmts, got, want)
		}
	}
}

// P14.1, P14.3: procedures
func TestProcedures(t *testing.T) {
	for source, want := range map[string]string{
		"MODULE M; VAR g: INTEGER; PROCEDURE P; BEGIN g := 4 END P; BEGIN P; P(); HALT(g) END M.":                                                                   "halt 4",
		"MODULE M; PROCEDURE F(n: INTEGER): INTEGER; VAR r: INTEGER; BEGIN IF n < 2 THEN r := 1 ELSE r := n * F(n - 1) END RETURN r END F; BEGIN HALT(F(6)) END M.": "halt 720",
		"MODULE M; VAR i: INTEGER; PROCEDURE P(VAR x: INTEGER; y: INTEGER); BEGIN x := x + y; y := 0; i := i * 10 END P; BEGIN i := 3; P(i, i); HALT(i) END M.":     "halt 60",
		"MODULE M; VAR a: ARRAY 5 OF INTEGER; PROCEDURE S(x: ARRAY OF INTEGER): INTEGER; VAR i, s: INTEGER; BEGIN WHILE i < LEN(x) DO s := s + x[i]; INC(i) END RETURN s END S; PROCEDURE Z(VAR x: ARRAY OF INTEGER); BEGIN x[0] := S(x); x[LEN(x)] := 1 END Z; BEGIN a[0] := 1; a[4] := 5; IF S(a) = 6 THEN Z(a) END END M.": "trap 1",
		"MODULE M; TYPE R = RECORD a: INTEGER; b: ARRAY 4 OF CHAR END; VAR r: R; PROCEDURE P(r: R; VAR s: R); BEGIN s.a := 5; s.b[2] := \"q\"; HALT(r.a + ORD(r.b[2])) END P; BEGIN P(r, r) END M.":                                                                                                                           "halt 118",
		"MODULE M; PROCEDURE P(x: INTEGER); PROCEDURE Q(y: INTEGER); BEGIN IF y > 0 THEN P(y - 1) ELSE HALT(77) END END Q; BEGIN Q(x) END P; BEGIN P(5) END M.":                                                                                                                                                               "halt 77",
		"MODULE M; PROCEDURE P(x: INTEGER): BYTE; RETURN x END P; PROCEDURE Q(x: BYTE): INTEGER; RETURN x END Q; BEGIN HALT(P(511) * 1000 + Q(258)) END M.":                                                                                                                                                                   "halt 255002",
		"MODULE M; PROCEDURE P(): BOOLEAN; VAR a: ARRAY 100 OF INTEGER; b: INTEGER; BEGIN a[99] := 1; b := 1 RETURN TRUE END P; PROCEDURE Q(): INTEGER; VAR a: ARRAY 100 OF INTEGER; b: INTEGER; RETURN a[99] + b END Q; BEGIN IF P() THEN HALT(Q()) END END M.":                                                              "halt 0",
		"MODULE M; PROCEDURE P(): BOOLEAN; VAR a, b: INTEGER; BEGIN a := 1; b := 1 RETURN TRUE END P; PROCEDURE Q(): INTEGER; VAR a, b: INTEGER; RETURN a + b END Q; BEGIN IF P() & (Q() = 0) THEN HALT(9) END END M.":                                                                                                        "halt 9",
		"MODULE M; PROCEDURE P; BEGIN P END P; BEGIN P END M.":                                                               "stack 0",
		"MODULE M; TYPE P = POINTER TO RECORD a: ARRAY 1000 OF INTEGER END; VAR p: P; BEGIN WHILE TRUE DO NEW(p) END END M.": "heap 0",
		"MODULE M; VAR i: INTEGER; PROCEDURE F(a, b, c: INTEGER): INTEGER; RETURN a * 100 + b * 10 + c END F; PROCEDURE G(): INTEGER; BEGIN INC(i) RETURN i END G; BEGIN HALT(F(G(), G() + F(0, 0, G()), G())) END M.": "halt 154",
		"MODULE M; VAR i: INTEGER; b: BOOLEAN; PROCEDURE T(): BOOLEAN; BEGIN INC(i) RETURN TRUE END T; BEGIN b := (1 < 2) = (T() & (i + ORD(T()) = 2)); HALT(ORD(b) * 10 + i) END M.":                                  "halt 12",
		"MODULE M; TYPE P = POINTER TO R; R = RECORD n: P; v: INTEGER END; VAR p: P; PROCEDURE Q(VAR x: P; y: P); BEGIN NEW(x); x.v := 3; x.n := y END Q; BEGIN Q(p, p); Q(p.n, p); HALT(p.n.v + p.n.n.v) END M.":      "halt 6",
		"MODULE M; CONST x = 3; PROCEDURE P; CONST x = x + 1; VAR y: ARRAY x OF CHAR; BEGIN HALT(LEN(y)) END P; BEGIN P END M.":                                                                                        "halt 4",
		"MODULE M; VAR INTEGER: CHAR; BEGIN INTEGER := \"a\"; HALT(ORD(INTEGER)) END M.":                                                                                                                               "halt 97",
		"MODULE M; VAR M: SET; BEGIN M := {3}; HALT(ORD(M)) END M.":                                                                                                                                                    "halt 8",
	} {
		if got := ended(t, source); got != want {
			t.Errorf("%s: %s, not %s", source, got, want)
		}
	}
}

// P14.1, P0.2: flags of what was reckoned ahead, and registers that are held, change nothing
func TestHeld(t *testing.T) {
	decls := "VAR i, j, k: INTEGER; b: BOOLEAN; a: ARRAY 3 OF INTEGER; PROCEDURE F(x: INTEGER): INTEGER; RETURN x + 1 END F; " +
		"PROCEDURE P(x: INTEGER): INTEGER; VAR l, m: INTEGER; BEGIN l := 3; m := 5 RETURN x * 1000 + F(l) * 100 + F(m) * F(x) END P; " +
		"PROCEDURE Q(x: ARRAY OF INTEGER; n: INTEGER): INTEGER; RETURN x[n - 1] END Q; PROCEDURE R(x: ARRAY OF INTEGER): INTEGER; RETURN x[0] * 10 + x[2] END R; PROCEDURE B(x: INTEGER; y, z: ARRAY OF INTEGER; w: BOOLEAN): INTEGER; RETURN x + y[1] + LEN(z) + ORD(w) END B; "
	for stmts, want := range map[string]string{
		"i := 2147483647; j := -5; k := i + 1; HALT(ABS(j))":  "halt 5",
		"i := 2147483647; j := 5; k := i + 1; HALT(ABS(j))":   "halt 5",
		"i := 2147483647; j := 5; k := i + 1; HALT(17 DIV j)": "halt 3",
		"i := 2147483647; j := 5; k := i + 1; HALT(i MOD j)":  "halt 2",
		"i := 2147483647; k := i + 1; HALT(17 DIV k)":         "trap 6",
		"HALT(P(2))":                       "halt 2418",
		"a[2] := 7; HALT(Q(a, 3))":         "halt 7",
		"HALT(Q(a, 0))":                    "trap 1",
		"HALT(Q(a, 4))":                    "trap 1",
		"a[0] := 4; a[2] := 9; HALT(R(a))": "halt 49",
		"i := 1; j := 2; k := 3; HALT(i - (j - (k - (i - (j - F(k) * F(F(j)))))))":           "halt -13",
		"i := 5; a[1] := 6; b := i = 5; HALT(i + i * B(i, a, a, i = i + i * (F(i) - F(i))))": "halt 80",
		"i := 5; a[1] := 6; HALT(i + i * B(i, a, a, i = i + i * F(i) * F(i)) - F(i + F(i)))": "halt 63",
	} {
		if got := told(t, decls, stmts); got != want {
			t.Errorf("%s: %s, not %s", stmts, got, want)
		}
	}
}

// P14.3: a face that only others import names a type that there is not
func TestWhole(t *testing.T) {
	a := api.Face{Name: "A"}
	_, key, _ := symfile.Bytes(a)
	b := api.Face{Name: "B", Imports: []api.Import{{Name: "A", Key: key}}, Objects: []api.FaceObject{{Class: api.ClassProc, Name: "P", Value: 1, Params: []api.FaceParam{{Base: api.Ref{Module: 1, Index: 16}}}}}}
	_, key, _ = symfile.Bytes(b)
	c := api.Face{Name: "C", Imports: []api.Import{{Name: "B", Key: key}}}
	files := func(name string) ([]byte, bool) {
		for _, f := range []api.Face{a, b, c} {
			if symfile.File(f.Name) == name {
				bytes, _, _ := symfile.Bytes(f)
				return bytes, true
			}
		}
		return nil, false
	}
	for _, name := range []string{"B", "C"} {
		if m := Source([]byte("MODULE M; IMPORT "+name+"; END M."), files); m.Err != 26 || m.Pos != 17 {
			t.Error(name, m.Err, m.Pos)
		}
	}
}

// P14.1: files
func TestFiles(t *testing.T) {
	s := built(t, "MODULE M; VAR f, g, w: INTEGER; c: CHAR; b: BYTE; n: ARRAY 9 OF CHAR; BEGIN f := FRESH(\"a.b\"); WRITE(f, \"x\"); WRITE(f, 300); WRITEW(f, 01020304H); REGISTER(f); "+
		"n[0] := \"a\"; n[1] := \".\"; n[2] := \"b\"; g := OLD(n); READ(g, c); READ(g, b); READW(g, w); ASSERT((c = \"x\") & (b = 44) & (w = 01020304H) & EOF(g) & (LENGTH(g) = 6) & (g = 2)); "+
		"SEEK(g, 1); READ(g, b); ASSERT((b = 44) & ~EOF(g)); f := OLD(\"zz\"); ASSERT((f = 0) & EOF(f)); DELETE(\"zz\"); DELETE(\"k\"); f := FRESH(\"q\"); ASSERT(1 + LENGTH(f) * 2 + OLD(\"a.b\") = 5); REGISTER(f); HALT(LENGTH(g)) END M.")
	s.Put("k", nil)
	end, e := run.Go(s, api.Job{Module: "M", Memory: 1 << 16, Fuel: fuel})
	b, _ := s.Get("a.b")
	_, gone := s.Get("k")
	_, there := s.Get("q")
	if e != api.OK || end.Stop != (api.Stop{Kind: api.StopHalt, Code: 6}) || string(b) != "x\x2c\x04\x03\x02\x01" || gone != api.ErrNone || there != api.OK {
		t.Error(end, e, b)
	}
}

// P14.1, P14.3: modules
func TestModules(t *testing.T) {
	a := "MODULE A; TYPE R* = RECORD x, y: INTEGER END; P* = POINTER TO R; VAR v*: ARRAY 3 OF R; n: INTEGER; p*: P; CONST c* = -5; d* = \"q\"; PROCEDURE Hidden; BEGIN INC(n) END Hidden; PROCEDURE Put*(VAR r: R; x: INTEGER); BEGIN r.x := x; Hidden; v[1].y := n END Put; PROCEDURE N*(): INTEGER; RETURN n END N; PROCEDURE Len*(s: ARRAY OF CHAR): INTEGER; RETURN LEN(s) END Len; BEGIN n := 40; NEW(p) END A."
	a = strings.Replace(a, "TYPE R*", "CONST c* = -5; d* = \"q\"; TYPE R*", 1)
	a = strings.Replace(a, "CONST c* = -5; d* = \"q\"; PROCEDURE", "PROCEDURE", 1)
	b := "MODULE B; IMPORT A; TYPE Q* = POINTER TO A.R; VAR r: A.R; BEGIN A.Put(r, 7); A.p.x := A.N(); HALT(r.x + A.v[1].y + A.c + A.p.x + ORD(A.d) + A.Len(\"ab\")) END B."
	if got := ended(t, a, b); got != "halt 200" {
		t.Error(got)
	}
	c := "MODULE C; IMPORT B; VAR q: B.Q; BEGIN NEW(q); q.y := 3; HALT(q.y) END C."
	if got := ended(t, a, b, c); got != "halt 200" {
		t.Error(got) // B's body halts ahead of C's
	}
	s := built(t, a, b, c)
	s.Drop("A.s")
	for source, want := range map[string]int{c: 26, b: 26, "MODULE D; END D.": 0} {
		if m := Source([]byte(source), Files(s)); m.Err != want {
			t.Error(source, m.Err, m.Pos)
		}
	}
	s.Put("source", []byte(strings.Replace(a, "c* = -5", "c* = 5", 1)))
	if _, _, e := Build(s); e != api.OK {
		t.Error(e)
	}
	if _, e := run.Go(s, api.Job{Module: "B", Memory: 1 << 16, Fuel: fuel}); e != api.ErrKey {
		t.Error(e)
	}
	if m := Source([]byte(c), Files(s)); m.Err != 26 {
		t.Error(m.Err)
	}
	m := Source([]byte(b), Files(s))
	face, key, _ := symfile.Of(func() []byte { b, _ := s.Get("A.s"); return b }())
	if len(m.Object.Imports) != 1 || m.Object.Imports[0] != (api.Import{Name: face.Name, Key: key}) || !object.May(m.Object) || !symfile.May(m.Face) {
		t.Error(m.Object.Imports)
	}
	if _, k, _ := symfile.Bytes(m.Face); k != m.Object.Key || len(m.Face.Imports) != 1 {
		t.Error(k)
	}
}

// P14.1, P0.1
func TestRightAndWrong(t *testing.T) {
	for _, source := range samples.Right() {
		m := Source([]byte(source), nil)
		if m.Err != 0 || m.Pos != 0 || !object.May(m.Object) || !symfile.May(m.Face) {
			t.Errorf("%s: error %d at %d", source, m.Err, m.Pos)
		}
	}
	for _, source := range samples.Wrong() {
		m := Source([]byte(source), nil)
		if m.Err < 1 || m.Err > 59 || m.Pos < 0 || m.Pos > len(source) || m.Object.Name != "" || m.Face.Name != "" {
			t.Errorf("%s: error %d at %d", source, m.Err, m.Pos)
		}
	}
}
