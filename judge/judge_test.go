package judge

import (
	"strings"
	"testing"

	"selfsame/api"
	"selfsame/compile"
	"selfsame/samples"
	"selfsame/store"
)

func files(t *testing.T, sources ...string) *store.Store {
	t.Helper()
	s, _ := store.New(1 << 20)
	for _, source := range sources {
		s.Put("source", []byte(source))
		if code, pos, e := compile.Build(s); code != 0 || e != api.OK {
			t.Fatal(source, code, pos, e)
		}
	}
	s.Delete("source")
	return s
}

const (
	moduleA = "MODULE A; TYPE R* = RECORD x: INTEGER END; P* = POINTER TO R; VAR v*: R; n*: INTEGER; PROCEDURE Put*(VAR r: R; s: ARRAY OF CHAR); BEGIN INC(n); r.x := n + LEN(s) END Put; BEGIN n := 5 END A."
	moduleB = "MODULE B; IMPORT A; TYPE Q* = A.P; VAR r*: A.R; f: INTEGER; BEGIN A.Put(r, \"ab\"); f := FRESH(\"out\"); WRITEW(f, r.x); REGISTER(f); HALT(r.x) END B."
)

// P24.1, P24.3
func TestSource(t *testing.T) {
	s := files(t, moduleA, moduleB)
	s.Put("X.s", []byte("S1"))
	s.Put("Y.s", func() []byte { b, _ := s.Get("A.s"); return b }())
	for _, source := range append(append(samples.Right(), samples.Wrong()...), moduleA, moduleB, "MODULE C; IMPORT B, A; VAR q: B.Q; BEGIN q := NIL; A.Put(q^, \"\") END C.", "MODULE C; IMPORT X; END C.", "MODULE C; IMPORT Y; END C.", strings.Repeat("(", 70000)) {
		if !Source([]byte(source), s) {
			t.Errorf("%.200s", source)
		}
	}
	if !Source(nil, nil) || !Source(nil, &store.Store{}) || !Source([]byte("MODULE M; END M."), s) {
		t.Error("nothing")
	}
}

// P24.1
func TestModest(t *testing.T) {
	body := func(stmts string) string { return "MODULE M; VAR i: INTEGER; BEGIN " + stmts + " END M." }
	for source, want := range map[string]bool{
		"MODULE M; END M.": true, "MODULE M; END": false, "": false, body("i := ((1))"): true, body("i := (((1)))"): false, body("i := a[b[1]]"): true, body("i := a[b[c]][1]"): false, body("f((1))"): true, body("f((g(1)))"): false, body("i := {{1}}"): true, body("i := {({})}"): false, body("f(1, 2, 3)"): true, body("f(1, 2, 3, 4)"): false,
		"MODULE M; PROCEDURE P(a, b: T; c: T); END P; END M.": true, "MODULE M; PROCEDURE P(a, b: T; c, d: T); END P; END M.": false, "MODULE M; PROCEDURE P(VAR a, b, c, d: T); END P; END M.": false,
		"MODULE M; END M." + strings.Repeat(" ", 4000-16): true, "MODULE M; END M." + strings.Repeat(" ", 4001-16): false, body("i := (1) + (2) + (3) + a[1] + f()"): true, body("i := a[1][2][3]"): false,
	} {
		if Modest([]byte(source)) != want {
			t.Error(source[:min(80, len(source))], !want)
		}
	}
}

// P24.2, P24.3
func TestRun(t *testing.T) {
	for _, l := range [][]string{
		{moduleA}, {moduleA, moduleB}, {moduleB}, {}, {"MODULE M"}, {moduleA, moduleA}, {"MODULE M; VAR f: INTEGER; BEGIN f := OLD(\"M.o\") + OLD(\"source\"); HALT(f) END M."}, {"MODULE M; BEGIN WHILE TRUE DO END END M."},
		{"MODULE M; VAR f: INTEGER; BEGIN f := FRESH(\"x\"); REGISTER(f); HALT(1 DIV f - 1 DIV (f - 1)) END M."}, {"MODULE M; PROCEDURE P; BEGIN P END P; BEGIN P END M."}, {"MODULE M; VAR a, b, c, d, e: ARRAY 65535 OF INTEGER; END M."}, {"MODULE M; VAR f: INTEGER; BEGIN f := FRESH(\"x.s\"); REGISTER(f); ASSERT(FALSE) END M."},
	} {
		var sources [][]byte
		for _, s := range l {
			sources = append(sources, []byte(s))
		}
		for _, fuel := range []int{0, 1, 2, 1000, -1, 1<<24 + 1} {
			if !Run(fuel, sources...) {
				t.Error(l, fuel)
			}
		}
	}
	for _, source := range samples.Right() {
		if !Run(2000, []byte(source)) {
			t.Error(source)
		}
	}
}

// what is judged wrongly, if it is unlike: the parts that tell it
func TestParts(t *testing.T) {
	a, b := files(t), files(t)
	a.Put("x.o", []byte("1"))
	b.Put("y.s", nil)
	if !alike(a, b) || !alike(b, a) {
		t.Error("made files")
	}
	a.Put("x", []byte("1"))
	if alike(a, b) || alike(b, a) {
		t.Error("a file more")
	}
	b.Put("x", []byte("2"))
	if alike(a, b) {
		t.Error("other bytes")
	}
	for k, want := range map[api.StopKind]bool{api.StopHalt: false, api.StopTrap: false, api.StopMemory: false, api.StopWord: false, api.StopHeap: true, api.StopStack: true, api.StopStore: true} {
		if spent(api.End{Stop: api.Stop{Kind: k}}) != want {
			t.Error(k)
		}
	}
	if !spent(api.End{Fuel: true}) || len(faces(files(t, moduleA, moduleB))) != 2 {
		t.Error("parts")
	}
}

// P24.2, P24.3
func TestBoot(t *testing.T) {
	s := files(t, moduleA, moduleB)
	s.Old("A.s")
	for _, source := range []string{"", moduleA, moduleB, "MODULE C; IMPORT B; VAR q*: B.Q; END C.", "MODULE M; BEGIN x := 1 END M.", strings.Repeat(" ", 65536), strings.Repeat("(", 30)} {
		before := s.Copy()
		if !Boot([]byte(source), s) || !s.Same(before) {
			t.Errorf("%.50s", source)
		}
	}
	small, _ := store.New(30)
	for _, source := range []string{"MODULE M; END M.", "x", strings.Repeat(" ", 29), strings.Repeat(" ", 31)} {
		if !Boot([]byte(source), small) {
			t.Error(source)
		}
	}
	if !Boot(nil, nil) || !Boot(nil, &store.Store{}) {
		t.Error("nothing")
	}
}
