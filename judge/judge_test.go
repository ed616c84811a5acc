package judge

import (
	"strings"
	"testing"

	"selfsame/api"
	"selfsame/compile"
	"selfsame/samples"
	"selfsame/store"
)

func files(t *testing.T, sources ...string) *store.Store {
	t.Helper()
	s, _ := store.New(1 << 20)
	for _, source := range sources {
		s.Put("source", []byte(source))
		if code, pos, e := compile.Build(s); code != 0 || e != api.OK {
			t.Fatal(source, code, pos, e)
		}
	}
	s.Delete("source")
	return s
}

const (
	moduleA = "MODULE A; TYPE R* = RECORD x: INTEGER END; P* = POINTER TO R; VAR v*: R; n*: INTEGER; PROCEDURE Put*(VAR r: R; s: ARRAY OF CHAR); BEGIN INC(n); r.x := n + LEN(s) END Put; BEGIN n := 5 END A."
	moduleB = "MODULE B; IMPORT A; TYPE Q* = A.P; VAR r*: A.R; f: INTEGER; BEGIN A.Put(r, \"ab\"); f := FRESH(\"out\"); WRITEW(f, r.x); REGISTER(f); HALT(r.x) END B."
)

// P24.1, P24.3
func TestSource(t *testing.T) {
	s := files(t, moduleA, moduleB)
	s.Put("X.s", []byte("S1"))
	s.Put("Y.s", func() []byte { b, _ := s.Get("A.s"); return b }())
	for _, source := range append(append(samples.Right(), samples.Wrong()...), moduleA, moduleB, "MODULE C; IMPORT B, A; VAR q: B.Q; BEGIN q := NIL; A.Put(q^, \"\") END C.", "MODULE C; IMPORT X; END C.", "MODULE C; IMPORT Y; END C.", strings.Repeat("(", 70000)) {
		if !Source([]byte(source), s) {
			t.Errorf("%.200s", source)
		}
	}
	if !Source(nil, nil) || !Source(nil, &store.Store{}) || !Source([]byte("MODULE M; END M."), s) {
		t.Error("nothing")
	}
}

// P24.1
func TestModest(t *testing.T) {
	body := func(stmts string) string { return "MODULE M; VAR i: INTEGER; BEGIN " + stmts + " END M." }
	for source, want := range map[string]bool{
		"MODULE M; END M.": true, "MODULE M; END": false, "": false, body("i := ((1))"): true, body("i := (((1)))"): false, body("i := a[b[1]]"): true, body("i := a[b[c]][1]"): false, body("f((1))"): true, body("f((g(1)))"): false, body("i := {{1}}"): true, body("i := {({})}"): false, body("f(1, 2, 3)"): true, body("f(1, 2, 3, 4)"): false,
		"MODULE M; PROCEDURE P(a, b: T; c: T); END P; END M.": true, "MODULE M; PROCEDURE P(a, b: T; c, d: T); END P; END M.": false, "MODULE M; PROCEDURE P(VAR a, b, c, d: T); END P; END M.": false,
		"MODULE M; END M." + strings.Repeat(" ", 4000-16): true, "MODULE M; END M." + strings.Repeat(" ", 4001-16): false, body("i := (1) + (2) + (3) + a[1] + f()"): true, body("i := a[1][2][3]"): false,
	} {
		if Modest([]byte(source)) != want {
			t.Error(source[:min(80, len(source))], !want)
		}
	}
}

// P24.2, P24.3
func TestRun(t *testing.T) {
	for _, l := range [][]string{
		{moduleA}, {moduleA, moduleB}, {moduleB}, {}, {"MODULE M"}, {moduleA, moduleA}, {"MODULE M; VAR f: INTEGER; BEGIN f := OLD(\"M.o\") + OLD(\"source\"); HALT(f) END M."}, {"MODULE M; BEGIN WHILE TRUE DO END END M."},
		{"MODULE M; VAR f: INTEGER; BEGIN f := FRESH(\"x\"); REGISTER(f); HALT(1 DIV f - 1 DIV (f - 1)) END M."}, {"MODULE M; PROCEDURE P; BEGIN P END P; BEGIN P END M."}, {"MODULE M; VAR a, b, c, d, e: ARRAY 65535 OF INTEGER; END M."}, {"MODULE M; VAR f: INTEGER; BEGIN f := FRESH(\"x.s\"); REGISTER(f); ASSERT(FALSE) END M."},
	} {
		var sources [][]byte
		for _, s := range l {
			sources = append(sources, []byte(s))
		}
		for _, fuel := range []int{0, 1, 2, 1000, -1, 1<<24 + 1} {
			if !Run(fuel, sources...) {
				t.Error(l, fuel)
			}
		}
	}
	for _, source := range samples.Right() {
		if !Run(2000, []byte(source)) {
			t.Error(source)
		}
	}
}

// what is judged wrongly, if it is unlike: the parts that tell it
func TestParts(t *testing.T) {
	a, b := files(t), files(t)
	a.Put("x.o", []byte("1"))
	b.Put("y.s", nil)
	if !alike(a, b) || !alike(b, a) {
		t.Error("made files")
	}
	a.Put("x", []byte("1"))
	if alike(a, b) || alike(b, a) {
		t.Error("a file more")
	}
	b.Put("x", []byte("2"))
	if alike(a, b) {
		t.Error("other bytes")
	}
	for k, want := range map[api.StopKind]bool{api.StopHalt: false, api.StopTrap: false, api.StopMemory: false, api.StopWord: false, api.StopHeap: true, api.StopStack: true, api.StopStore: true} {
		if spent(api.End{Stop: api.Stop{Kind: k}}) != want {
			t.Error(k)
		}
	}
	if !spent(api.End{Fuel: true}) || len(faces(files(t, moduleA, moduleB))) != 2 {
		t.Error("parts")
	}
}

// P24.1: what does not go together
func TestTogether(t *testing.T) {
	one := api.Made{Face: api.Face{Name: "A"}}
	for i, x := range []struct {
		made   api.Made
		face   api.Face
		e      api.Errno
		modest bool
		want   bool
	}{
		{one, one.Face, api.OK, true, true}, {one, api.Face{Name: "B"}, api.OK, true, false}, {one, one.Face, api.ErrState, true, false}, {one, api.Face{}, api.OK, true, false}, {api.Made{}, api.Face{}, api.OK, true, false},
		{api.Made{Err: 1}, api.Face{}, api.ErrBytes, true, true}, {api.Made{Err: 59}, api.Face{}, api.ErrState, true, true}, {api.Made{Err: 59}, api.Face{}, api.ErrNone, true, true}, {api.Made{Err: 59}, one.Face, api.OK, true, false}, {api.Made{Err: 60}, one.Face, api.OK, true, true}, {api.Made{Err: 60}, api.Face{}, api.ErrState, true, true},
		{api.Made{Err: 65}, one.Face, api.OK, true, false}, {api.Made{Err: 66}, one.Face, api.OK, true, false}, {api.Made{Err: 71}, one.Face, api.OK, true, false}, {api.Made{Err: 65}, one.Face, api.OK, false, true}, {api.Made{Err: 66}, one.Face, api.OK, false, true}, {api.Made{Err: 71}, one.Face, api.OK, false, true}, {api.Made{Err: 64}, one.Face, api.OK, true, true}, {api.Made{Err: 67}, one.Face, api.OK, true, true}, {api.Made{Err: 72}, one.Face, api.OK, true, true},
	} {
		if together(x.made, x.face, x.e, x.modest) != x.want {
			t.Error(i)
		}
	}
}

// P24.2: ends, and files, that are unlike
func TestEnds(t *testing.T) {
	a, b := files(t), files(t)
	b.Put("x", nil)
	halt := func(n uint32) api.End { return api.End{Stop: api.Stop{Kind: api.StopHalt, Code: n}, Steps: int(n)} }
	trap := api.End{Stop: api.Stop{Kind: api.StopTrap, Code: 3}}
	for i, x := range []struct {
		end, meant api.End
		s, o       *store.Store
		want, boot bool
	}{
		{halt(0), halt(0), a, a.Copy(), true, true}, {halt(3), halt(3), a, a.Copy(), true, false}, {halt(3), halt(4), a, a, false, false}, {halt(3), trap, a, a, false, false}, {halt(0), halt(0), a, b, false, false}, {api.End{Fuel: true}, halt(3), a, b, true, false}, {halt(0), api.End{Fuel: true}, a, b, true, false},
		{api.End{Stop: api.Stop{Kind: api.StopStack}}, halt(0), a, b, true, true}, {api.End{Stop: api.Stop{Kind: api.StopHeap}}, halt(0), a, b, true, true}, {api.End{Stop: api.Stop{Kind: api.StopStore}}, halt(0), a, b, true, true}, {api.End{Stop: api.Stop{Kind: api.StopMemory}}, halt(0), a, a, false, false}, {trap, trap, a, a, true, false},
	} {
		if endAlike(x.end, x.meant, x.s, x.o) != x.want || booted(x.end, api.OK, x.s, x.o) != x.boot {
			t.Error(i)
		}
	}
	if booted(halt(0), api.ErrFull, a, a) {
		t.Error("what had no room was made")
	}
}

// P24.2: what is run, and booted
func TestReady(t *testing.T) {
	l, ok := parsed([][]byte{[]byte(moduleA), []byte(moduleB)})
	if !ok || len(l) != 2 || l[1].Name != "B" {
		t.Error(l, ok)
	}
	for i, l := range [][][]byte{nil, {[]byte("x")}, {[]byte(moduleA), []byte(moduleA)}} {
		if _, ok := parsed(l); ok {
			t.Error(i)
		}
	}
	s, ok := built([][]byte{[]byte(moduleA), []byte(moduleB)})
	names := ""
	for name := range s.Files() {
		names += name + " "
	}
	if !ok || names != "A.o A.s B.o B.s " {
		t.Error(names, ok)
	}
	if _, ok := built([][]byte{[]byte(moduleB)}); ok {
		t.Error("B without A")
	}
	s = files(t, moduleA)
	s.Old("A.s")
	f, ok := fresh([]byte("x"), s)
	if b, _ := f.Get("source"); !ok || string(b) != "x" || f.Riders() != 0 || f.Room() != s.Room()-1 {
		t.Error(ok, f.Room(), s.Room())
	}
	f.Drop("source")
	if !f.Same(s) {
		t.Error("other files")
	}
	if _, ok := fresh(make([]byte, 1<<20), s); ok {
		t.Error("no room")
	}
}

// P24.2, P24.3
func TestBoot(t *testing.T) {
	s := files(t, moduleA, moduleB)
	s.Old("A.s")
	for _, source := range []string{"", moduleA, moduleB, "MODULE C; IMPORT B; VAR q*: B.Q; END C.", "MODULE M; BEGIN x := 1 END M.", strings.Repeat(" ", 65536), strings.Repeat("(", 30)} {
		before := s.Copy()
		if !Boot([]byte(source), s) || !s.Same(before) {
			t.Errorf("%.50s", source)
		}
	}
	small, _ := store.New(30)
	for _, source := range []string{"MODULE M; END M.", "x", strings.Repeat(" ", 29), strings.Repeat(" ", 31)} {
		if !Boot([]byte(source), small) {
			t.Error(source)
		}
	}
	if !Boot(nil, nil) || !Boot(nil, &store.Store{}) {
		t.Error("nothing")
	}
}
