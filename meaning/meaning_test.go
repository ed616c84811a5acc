package meaning

import (
	"fmt"
	"slices"
	"strings"
	"testing"

	"selfsame/api"
	"selfsame/compile"
	"selfsame/run"
	"selfsame/store"
	"selfsame/symfile"
	"selfsame/syntax"
	"selfsame/tree"
)

func parsed(t *testing.T, sources ...string) []api.Node {
	t.Helper()
	var l []api.Node
	for _, s := range sources {
		n, at, e := syntax.Parse([]byte(s))
		if e != api.OK {
			t.Fatalf("%s: at %d", s, at)
		}
		l = append(l, n)
	}
	return l
}

func fresh() *store.Store {
	s, _ := store.New(1 << 16)
	return s
}

func told(e api.End) string {
	if e.Fuel {
		return fmt.Sprint("fuel ", e.Steps)
	}
	return fmt.Sprint([]string{"none", "halt", "trap", "stack", "heap", "store", "memory", "word"}[e.Stop.Kind], " ", int32(e.Stop.Code), " ", e.Steps)
}

const common = "TYPE N = POINTER TO R; R = RECORD n: N; v: INTEGER; c: CHAR END; VAR i, j, k: INTEGER; b, d: BOOLEAN; c: CHAR; y: BYTE; s: SET; a: ARRAY 4 OF INTEGER; m: ARRAY 2 OF ARRAY 3 OF R; p, q: N; t: ARRAY 6 OF CHAR; r: R; " +
	"PROCEDURE T(): BOOLEAN; BEGIN INC(j) RETURN TRUE END T; PROCEDURE F(n: INTEGER): INTEGER; VAR l: INTEGER; BEGIN IF n > 1 THEN l := n * F(n - 1) ELSE l := 1 END RETURN l END F; PROCEDURE Y(n: INTEGER): BYTE; RETURN n END Y; " +
	"PROCEDURE V(VAR x: INTEGER; z: INTEGER); BEGIN x := x + z; z := 0; i := i * 2 END V; PROCEDURE L(x: ARRAY OF CHAR): INTEGER; RETURN LEN(x) * 1000 + ORD(x[0]) END L; PROCEDURE Z(VAR x: ARRAY OF INTEGER; n: INTEGER); BEGIN x[n] := n END Z; PROCEDURE G(r: R; x: N): N; BEGIN x.v := r.v + 1 RETURN x END G; PROCEDURE D; BEGIN D END D; "

// P19.2: what statements do; the same on the machine
func TestStatements(t *testing.T) {
	for stmts, want := range map[string]string{
		"":                                       "halt 0 0",
		"HALT(7 DIV 2)":                          "halt 3 1",
		"i := 0; ASSERT(1 DIV i = 0)":            "trap 6 2",
		"i := -1; HALT(5 MOD i)":                 "trap 6 2",
		"i := -7; HALT(i DIV 2 * 100 + i MOD 2)": "halt -399 2",
		"i := 4; a[i] := 1":                      "trap 1 2",
		"a[-1] := F(1)":                          "trap 1 1",
		"HALT(p.v)":                              "trap 4 1",
		"p.v := F(3)":                            "trap 4 1",
		"NEW(p); p.n := p; p.n.v := 5; HALT(p^.n^.n.v)":                                              "halt 5 4",
		"NEW(p); q := p; IF (p = q) & (p.n = NIL) & (NIL # p) THEN HALT(1) END":                      "halt 1 4",
		"ASSERT(NIL = NIL); IF NIL # NIL THEN HALT(1) END; HALT(ORD(p = NIL) * 10 + ORD(NIL = NIL))": "halt 11 5",
		"i := 3; HALT(i + F(3) * 2)":                                                                 "halt 15 11",
		"HALT(Y(300))":                                                                               "halt 44 2", "HALT(Y(-1) * 2)": "halt 510 2",
		"HALT(Y(300) + Y(-1))":     "halt 299 3",
		"y := 300; HALT(y); ":      "halt 44 2",
		"i := 5; V(i, i); HALT(i)": "halt 20 6",
		"HALT(L(\"ab\"))":          "halt 3097 4",
		"Z(a, 3); HALT(a[3])":      "halt 3 3",
		"Z(a, 4)":                  "trap 1 2",
		"NEW(p); m[1][2].v := 6; q := G(m[1][2], p); HALT(q.v)":                                 "halt 7 6",
		"IF d & T() OR T() THEN HALT(j) END":                                                    "halt 1 4",
		"b := T() OR T(); HALT(j)":                                                              "halt 1 4",
		"s := {1, 33, -1} + {2}; IF (63 IN s) & ~(3 IN s) THEN HALT(ORD(s * {0, 1, 2, 3})) END": "halt 6 4",
		"WHILE i < 3 DO INC(i) END; HALT(i)":                                                    "halt 3 9",
		"REPEAT INC(i, 2) UNTIL i > 3; HALT(i)":                                                 "halt 4 6",
		"IF i = 1 THEN HALT(1) ELSIF i = 0 THEN HALT(2) ELSE HALT(3) END":                       "halt 2 2",
		"IF i = 1 THEN HALT(1) ELSE HALT(3) END":                                                "halt 3 2",
		"DEC(a[F(1)], F(2)); HALT(a[1])":                                                        "halt -2 11",
		"y := 0; DEC(y); HALT(y)":                                                               "halt 255 3",
		"HALT(ABS(-3) + ORD(ODD(7)) + LSL(1, 33) + ASR(-8, 2))":                                 "halt 4 6",
		"HALT(ORD(CHR(353)) + LEN(a) + LEN(m[1]))":                                              "halt 104 5",
		"HALT(LEN(m[2]))": "trap 1 2",
		"c := \"b\"; IF (c > \"a\") & (c <= \"b\") & (\"a\" < \"c\") & (c # 0X) & (c >= \"b\") THEN HALT(9) END": "halt 9 3",
		"i := 80000000H; HALT(-i + ABS(i))":   "halt 0 3",
		"i := 65536; HALT(i * i + i * 65535)": "halt -65536 2",
		"i := FRESH(\"f.x\"); WRITE(i, \"q\"); WRITE(i, 321); WRITEW(i, -2); REGISTER(i); j := OLD(\"f.x\"); READ(j, c); READ(j, y); READW(j, k); ASSERT((LENGTH(j) = 6) & EOF(j)); SEEK(j, 1); READ(j, c); DELETE(\"f.x\"); HALT(ORD(c) + y + k + OLD(\"f.x\"))": "halt 128 20",
		"D":                              "stack 0 2001",
		"WHILE TRUE DO NEW(p) END":       "heap",
		"HALT(OLD(\"\") + FRESH(\"9\"))": "halt 0 3",
	} {
		source := "MODULE M; " + common + "BEGIN " + stmts + " END M."
		s := fresh()
		machine := s.Copy()
		end, e := Run(s, "M", 1000000, parsed(t, source)...)
		if got := told(end); e != api.OK || got != want && want != "heap" || want == "heap" && end.Stop.Kind != api.StopHeap {
			t.Errorf("%s: %s %v, not %s", stmts, got, e, want)
		}
		machine.Put("source", []byte(source))
		if code, pos, _ := compile.Build(machine); code != 0 {
			t.Fatal(stmts, code, source[pos:])
		}
		other, _ := run.Go(machine, api.Job{Module: "M", Memory: 1 << 16, Fuel: 1 << 24})
		for _, name := range []string{"source", "M.o", "M.s"} {
			machine.Drop(name)
		}
		if other.Stop != end.Stop || !s.Same(machine) {
			t.Errorf("%s: the machine %v", stmts, other)
		}
	}
}

// P19.2: names of procedures, types of parts
func TestNames(t *testing.T) {
	for source, want := range map[string]string{
		"MODULE M; PROCEDURE P(a, b: INTEGER): INTEGER; VAR c, d: INTEGER; BEGIN c := a; d := b; INC(c); INC(d, c) RETURN a * 1000 + b * 100 + c * 10 + d END P; BEGIN HALT(P(1, 2)) END M.":                                                                                                                    "halt 1224 6",
		"MODULE M; TYPE R = RECORD s: SET; b: BYTE END; VAR p: POINTER TO R; a: ARRAY 2 OF R; q: ARRAY 2 OF SET; PROCEDURE P(x: ARRAY OF SET): SET; RETURN x[0] + {1} END P; BEGIN NEW(p); p^.s := {2}; a[1].s := {3}; q[0] := {0}; HALT(ORD(p^.s + {1}) + ORD(a[1].s + {3}) * 100 + ORD(P(q)) * 10000) END M.": "halt 30806 9",
		"MODULE M; TYPE P = POINTER TO R; R = RECORD n: P; v: INTEGER END; PROCEDURE Q; TYPE S = POINTER TO R; T = POINTER TO Z; Z = RECORD s: S; c: CHAR END; VAR t: T; BEGIN NEW(t); NEW(t.s); NEW(t.s.n); t.s.n.v := 8; HALT(t.s.n.v + ORD(t.c)) END Q; BEGIN Q END M.":                                      "halt 8 7",
		"MODULE M; VAR x: INTEGER; PROCEDURE P; PROCEDURE ABS(n: INTEGER): INTEGER; RETURN n * 2 END ABS; BEGIN x := ABS(-3) END P; PROCEDURE Q; BEGIN x := x + ABS(-3) END Q; BEGIN P; Q; HALT(x) END M.":                                                                                                      "halt -3 7",
	} {
		end, e := Run(fresh(), "M", 999, parsed(t, source)...)
		if got := told(end); got != want || e != api.OK {
			t.Errorf("%s: %s %v, not %s", source, got, e, want)
		}
	}
}

// P19.2, P19.4: fuel
func TestFuel(t *testing.T) {
	source := "MODULE M; VAR f: INTEGER; BEGIN f := FRESH(\"a\"); REGISTER(f); WHILE f < 4 DO WRITE(f, f); INC(f) END END M."
	whole := parsed(t, source)
	kept := tree.Copy(whole[0])
	for fuel := range 30 {
		s := fresh()
		end, e := Run(s, "M", fuel, whole...)
		want := api.End{Steps: fuel, Fuel: true}
		if fuel >= 14 {
			want = api.End{Stop: api.Stop{Kind: api.StopHalt}, Steps: 14}
		}
		if end != want || e != api.OK {
			t.Error(fuel, end, e)
		}
		b, _ := s.Get("a")
		all := fresh()
		Run(all, "M", 99, whole...)
		c, _ := all.Get("a")
		if !strings.HasPrefix(string(c), string(b)) {
			t.Error(fuel, b, c)
		}
	}
	if end, _ := Run(fresh(), "M", 5, parsed(t, "MODULE M; BEGIN WHILE TRUE DO END END M.")...); end != (api.End{Steps: 5, Fuel: true}) {
		t.Error(end)
	}
	if end, _ := Run(fresh(), "M", 5, parsed(t, "MODULE M; BEGIN REPEAT UNTIL FALSE END M.")...); end != (api.End{Steps: 5, Fuel: true}) {
		t.Error(end)
	}
	if !tree.Same(whole[0], kept) {
		t.Error("a tree was changed")
	}
}

const (
	moduleA = "MODULE A; TYPE R* = RECORD x: INTEGER END; VAR v*: R; n*: INTEGER; PROCEDURE Put*(VAR r: R); BEGIN INC(n); r.x := n END Put; PROCEDURE P; BEGIN HALT(1) END P; PROCEDURE HALT(x: INTEGER); END HALT; BEGIN n := 5; HALT(2) END A."
	moduleB = "MODULE B; IMPORT A; CONST k* = 7; VAR r*: A.R; BEGIN A.Put(r) END B."
	moduleC = "MODULE C; IMPORT B, A; VAR w: ARRAY 3 OF CHAR; u: POINTER TO A.R; z: BYTE; BEGIN w[1] := \"q\"; A.Put(B.r); NEW(u); z := B.k; END C."
)

// P19.1, P19.2, P19.3
func TestModules(t *testing.T) {
	for i, x := range []struct {
		body, want string
	}{{"VAR r: A.R; BEGIN A.Put(r); HALT(r.x * 100 + B.r.x + B.k)", "halt 713 9"}} {
		end, e := Run(fresh(), "M", 99, parsed(t, "MODULE M; IMPORT A, B; "+x.body+" END M.", moduleB, moduleA)...)
		if e != api.OK || told(end) != x.want {
			t.Error(i, told(end), e)
		}
	}
	l := parsed(t, moduleC, moduleA, moduleB)
	if names, e := Order("C", l...); !slices.Equal(names, []string{"A", "B", "C"}) || e != api.OK {
		t.Error(names, e)
	}
	if f, e := Faces("C", l...); f != nil || e != api.ErrState {
		t.Error(e) // B.r is not written to by C
	}
	l[0] = parsed(t, strings.Replace(moduleC, "A.Put(B.r); ", "", 1))[0]
	f, e := Faces("C", l...)
	if e != api.OK || len(f) != 3 || f[1].Name != "B" || len(f[1].Imports) != 1 || !symfile.May(f[2]) {
		t.Error(f, e)
	}
	for name, want := range map[string]string{"w": "\x00q\x00\x00", "u": "\x01\x00\x00\x00", "z": "\x07"} {
		b, end, e := Variable(fresh(), "C", 99, name, l...)
		if string(b) != want || told(end) != "halt 0 8" || e != api.OK {
			t.Errorf("%s: %q %v %v", name, b, told(end), e)
		}
	}
	b, end, e := Variable(fresh(), "A", 1, "n", l...)
	if string(b) != "\x05\x00\x00\x00" || end != (api.End{Steps: 1, Fuel: true}) || e != api.OK {
		t.Error(b, end, e)
	}
	for _, name := range []string{"", "nothing", "A", "INTEGER", "Put"} {
		if b, end, e := Variable(fresh(), "C", 99, name, l...); b != nil || end != (api.End{}) || e != api.ErrNone {
			t.Error(name, e)
		}
	}
	if _, _, e := Variable(fresh(), "A", 99, "Put", l...); e != api.ErrNone {
		t.Error(e)
	}
}

// P19.1, P19.2: errors
func TestErrors(t *testing.T) {
	a, b := parsed(t, moduleA)[0], parsed(t, moduleB)[0]
	self := parsed(t, "MODULE S; IMPORT S; END S.")[0]
	d, f := parsed(t, "MODULE D; IMPORT F; END D.")[0], parsed(t, "MODULE F; IMPORT N, D; END F.")[0]
	g := parsed(t, "MODULE F; IMPORT D, N; END F.")[0]
	wrong := parsed(t, "MODULE W; IMPORT A; BEGIN A.n := 1 END W.")[0]
	great := parsed(t, "MODULE G; VAR a, b, c, d: ARRAY 65535 OF INTEGER; e, f, g, h, i: INTEGER; END G.")[0]
	just := parsed(t, "MODULE G; VAR a, b, c, d: ARRAY 65535 OF INTEGER; e, f, g, h: INTEGER; END G.")[0]
	many := parsed(t, "MODULE P; PROCEDURE Q*(a, b, c, d, e, f, g, h, i, j, k, l, m: CHAR); END Q; END P.")[0]
	for i, x := range []struct {
		name    string
		modules []api.Node
		order   api.Errno
		run     api.Errno
	}{
		{"A", []api.Node{a}, 0, 0}, {"B", []api.Node{b, a}, 0, 0}, {"B", []api.Node{b}, api.ErrNone, api.ErrNone}, {"X", []api.Node{a}, api.ErrNone, api.ErrNone}, {"", nil, api.ErrNone, api.ErrNone}, {"A", []api.Node{a, a}, api.ErrArg, api.ErrArg}, {"A", []api.Node{a, {}}, api.ErrArg, api.ErrArg}, {"A", []api.Node{a, b}, 0, 0},
		{"S", []api.Node{self}, api.ErrCycle, api.ErrCycle}, {"D", []api.Node{d, f}, api.ErrNone, api.ErrNone}, {"D", []api.Node{d, g}, api.ErrCycle, api.ErrCycle}, {"W", []api.Node{wrong, a}, 0, api.ErrState}, {"G", []api.Node{great}, 0, api.ErrMemory}, {"G", []api.Node{just}, 0, 0}, {"P", []api.Node{many}, 0, api.ErrState},
	} {
		names, e := Order(x.name, x.modules...)
		if e != x.order || (names == nil) != (e != api.OK) {
			t.Error(i, names, e)
		}
		end, e := Run(fresh(), x.name, 99, x.modules...)
		if e != x.run || e != api.OK && end != (api.End{}) {
			t.Error(i, e)
		}
		if l, e := Faces(x.name, x.modules...); x.run != api.ErrMemory && (e != x.run || (l == nil) != (e != api.OK)) {
			t.Error(i, e)
		}
		if _, e := Run(nil, x.name, -1, x.modules...); e != api.ErrNil {
			t.Error(i, e)
		}
		for _, fuel := range []int{-1, 1<<40 + 1} {
			if _, e := Run(fresh(), x.name, fuel, x.modules...); e != api.ErrArg {
				t.Error(i, e)
			}
		}
	}
	if _, e := Run(fresh(), "A", 1<<40, a); e != api.OK {
		t.Error(e)
	}
	if _, e := Run(&store.Store{}, "A", 9, a); e != api.ErrNil {
		t.Error(e)
	}
}

// P19.2: a store without room
func TestStore(t *testing.T) {
	s, _ := store.New(3)
	end, _ := Run(s, "M", 99, parsed(t, "MODULE M; VAR f: INTEGER; BEGIN f := FRESH(\"a\"); REGISTER(f); WRITE(f, 1); WRITEW(f, 1); HALT(1) END M.")...)
	if b, _ := s.Get("a"); told(end) != "store 0 5" || string(b) != "\x01" {
		t.Error(told(end), b)
	}
}
