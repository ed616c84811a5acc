package compile

import (
	"fmt"
	"strings"
	"testing"

	"selfsame/api"
	"selfsame/object"
	"selfsame/store"
	"selfsame/symfile"
	"selfsame/word"
)

// many joins texts made of numbers.
func many(n int, format string) string {
	var b strings.Builder
	for i := range n {
		b.WriteString(strings.ReplaceAll(format, "#", fmt.Sprint(i)))
	}
	return b.String()
}

// P0.1: what is beyond a limit has that limit's number, what is not is compiled
func TestLimits(t *testing.T) {
	deep := func(n int) string {
		return "MODULE M; VAR i: INTEGER; BEGIN i := " + strings.Repeat("(", n) + "1" + strings.Repeat(")", n) + " END M."
	}
	for n, x := range []struct {
		source string
		code   int
	}{
		{"MODULE M; END M." + strings.Repeat(" ", 65535-16), 0},
		{"MODULE M; END M." + strings.Repeat(" ", 65536-16), 60},
		{deep(22), 0}, {deep(23), 61}, {deep(30), 61}, {deep(5000), 61},
		{"MODULE M; VAR b: BOOLEAN; BEGIN b := " + strings.Repeat("~", 5000) + "b END M.", 0},
		{"MODULE M; BEGIN " + strings.Repeat("WHILE TRUE DO ", 23) + strings.Repeat("END ", 23) + " END M.", 0},
		{"MODULE M; BEGIN " + strings.Repeat("WHILE TRUE DO ", 24) + strings.Repeat("END ", 24) + " END M.", 61},
		{"MODULE M; TYPE T = " + strings.Repeat("RECORD a: ", 23) + "CHAR" + strings.Repeat(" END", 23) + "; END M.", 0},
		{"MODULE M; TYPE T = " + strings.Repeat("RECORD a: ", 24) + "CHAR" + strings.Repeat(" END", 24) + "; END M.", 61},
		{"MODULE M; " + strings.Repeat("PROCEDURE P; ", 23) + strings.Repeat("BEGIN END P; ", 23) + "END M.", 0},
		{"MODULE M; " + strings.Repeat("PROCEDURE P; ", 25) + strings.Repeat("BEGIN END P; ", 25) + "END M.", 61},
		{"MODULE M; VAR " + many(700-57-2, "a#, ") + "z: CHAR; END M.", 0},
		{"MODULE M; VAR " + many(700-57-1, "a#, ") + "z: CHAR; END M.", 62},
		{"MODULE M; " + many(300, "PROCEDURE P#(x, y: CHAR); END P#; ") + "END M.", 0},
		{"MODULE M; " + many(300, "PROCEDURE P#(x, y: CHAR); END P#; ") + "VAR", 10},
		{"MODULE M; " + many(301, "PROCEDURE P#(x, y: CHAR); END P#; ") + "END M.", 63},
		{"MODULE M; TYPE " + many(194, "T# = RECORD END; ") + "END M.", 0},
		{"MODULE M; TYPE " + many(195, "T# = RECORD END; ") + "END M.", 64},
		{"MODULE M; PROCEDURE P(a, b, c, d, e, f, g, h, i, j, k, l: INTEGER); BEGIN P(1, 2, 3, 4, 5, 6, 7, 8, 9, 10, 11, 12) END P; END M.", 0},
		{"MODULE M; PROCEDURE P(a, b, c, d, e, f, g, h, i, j, k, l, m: INTEGER); END P; END M.", 65},
		{"MODULE M; PROCEDURE P(a, b, c, d, e, f, g: ARRAY OF CHAR); END P; END M.", 65},
		{"MODULE M; VAR i: INTEGER; BEGIN i := " + strings.Repeat("i + i * (", 12) + "i" + strings.Repeat(")", 12) + " END M.", 65},
		{"MODULE M; VAR i: INTEGER; BEGIN " + many(2700, "i := i; ") + "END M.", 0},
		{"MODULE M; VAR i: INTEGER; BEGIN " + many(2800, "i := i; ") + "END M.", 66},
		{"MODULE M; VAR a: ARRAY 65535 OF INTEGER; b: INTEGER; END M.", 0},
		{"MODULE M; VAR a: ARRAY 65535 OF INTEGER; b, c: INTEGER; END M.", 67},
		{"MODULE M; VAR a: ARRAY 65535 OF INTEGER; b: INTEGER; BEGIN b := OLD(\"\") END M.", 67},
		{"MODULE M; VAR a: ARRAY 65535 OF INTEGER; b: INTEGER; PROCEDURE P; VAR a: ARRAY 8192 OF INTEGER; END P; END M.", 0},
		{"MODULE M; PROCEDURE P; VAR a: ARRAY 8192 OF INTEGER; b: CHAR; END P; END M.", 68},
		{"MODULE M; " + many(200, "PROCEDURE P#*; END P#; ") + "END M.", 0},
		{"MODULE M; " + many(201, "PROCEDURE P#*; END P#; ") + "END M.", 70},
		{"MODULE M; VAR i: INTEGER; BEGIN " + many(10, "DELETE(\""+strings.Repeat("x", 63)+"\"); ") + "END M.", 0},
		{"MODULE M; BEGIN " + many(128, "DELETE(\""+strings.Repeat("x", 63)+"\"); ") + "END M.", 0},
		{"MODULE M; BEGIN " + many(128, "DELETE(\""+strings.Repeat("x", 63)+"\"); ") + "DELETE(\"\") END M.", 72},
		{"MODULE M; TYPE T = RECORD " + many(100, "a#: CHAR; ") + "END; END M.", 0},
		{"MODULE M; TYPE T = RECORD " + many(101, "a#: CHAR; ") + "END; END M.", 73},
	} {
		m := Source([]byte(x.source), nil)
		if m.Err != x.code || m.Pos > len(x.source) {
			t.Errorf("%d %.60s: error %d at %d, not %d", n, x.source, m.Err, m.Pos, x.code)
		}
		if m.Err == 0 && (!object.May(m.Object) || !symfile.May(m.Face)) {
			t.Error(n, "may not be")
		}
	}
}

// P0.1: fields of all records, fixups, imports, a long face
func TestGreatLimits(t *testing.T) {
	var b strings.Builder
	b.WriteString("MODULE M; TYPE ")
	for i := range 21 {
		fmt.Fprintf(&b, "T%d = RECORD ", i)
		for j := range 100 {
			if i < 20 || j == 0 {
				fmt.Fprintf(&b, "%sa%d", map[bool]string{true: "", false: ","}[j == 0], j)
			}
		}
		b.WriteString(": CHAR END; ")
	}
	b.WriteString("END M.")
	if m := Source([]byte(b.String()), nil); m.Err != 73 {
		t.Error(m.Err, m.Pos)
	}
	if m := Source([]byte(strings.Replace(b.String(), "T20 = RECORD a0: CHAR END;", "", 1)), nil); m.Err != 0 {
		t.Error(m.Err, m.Pos)
	}
	s, _ := store.New(1 << 22)
	var names []string
	for i := range 13 {
		name := fmt.Sprint("A", i)
		names = append(names, name)
		s.Put("source", []byte("MODULE "+name+"; VAR v*: INTEGER; PROCEDURE P*; END P; END "+name+"."))
		Build(s)
	}
	if m := Source([]byte("MODULE M; IMPORT "+strings.Join(names, ", ")+"; END M."), Files(s)); m.Err != 69 {
		t.Error(m.Err)
	}
	if m := Source([]byte("MODULE M; IMPORT "+strings.Join(names[:12], ", ")+"; END M."), Files(s)); m.Err != 0 {
		t.Error(m.Err)
	}
	if m := Source([]byte("MODULE M; IMPORT A0; BEGIN "+many(8192, "A0.P; ")+"END M."), Files(s)); m.Err != 0 {
		t.Error(m.Err, m.Pos)
	}
	if m := Source([]byte("MODULE M; IMPORT A0; BEGIN "+many(8193, "A0.P; ")+"END M."), Files(s)); m.Err != 71 {
		t.Error(m.Err)
	}
}

// P14.2
func TestBuild(t *testing.T) {
	for _, s := range []*store.Store{nil, {}} {
		if _, _, e := Build(s); e != api.ErrNil {
			t.Error(e)
		}
		if _, ok := Files(s)("a"); ok {
			t.Error("a file")
		}
	}
	s, _ := store.New(200)
	if _, _, e := Build(s); e != api.ErrNone {
		t.Error(e)
	}
	source := "MODULE M; VAR x: INTEGER; BEGIN x := TRUE END M."
	s.Put("source", []byte(source))
	code, pos, e := Build(s)
	b, _ := s.Get("error")
	if code < 1 || code > 59 || pos < 36 || pos > 45 || e != api.OK || string(b) != string(word.Bytes(uint32(code), uint32(pos))) {
		t.Error(code, pos, e, b)
	}
	n := 0
	for range s.Files() {
		n++
	}
	if n != 2 {
		t.Error(n)
	}
	s.Put("source", []byte("MODULE M; BEGIN HALT(3) END M."))
	if code, pos, e := Build(s); code != 0 || pos != 0 || e != api.OK {
		t.Error(code, pos, e)
	}
	m := Source([]byte("MODULE M; BEGIN HALT(3) END M."), nil)
	face, _, _ := symfile.Bytes(m.Face)
	obj, _ := object.Bytes(m.Object)
	f, ok := Files(s)("M.s")
	o, _ := Files(s)("M.o")
	if !ok || string(f) != string(face) || string(o) != string(obj) {
		t.Error("files")
	}
	for room := range len(face) + len(obj) {
		s, _ := store.New(30 + room)
		s.Put("source", []byte("MODULE M; BEGIN HALT(3) END M."))
		before := s.Copy()
		if _, _, e := Build(s); e != api.ErrFull || !s.Same(before) {
			t.Error(room, e)
		}
	}
	s, _ = store.New(30)
	s.Put("source", []byte("MODULE M; BEGIN HALT(b) END M."))
	if code, _, e := Build(s); code != 0 || e != api.ErrFull {
		t.Error(code, e)
	}
}

// P14.1: blanks ahead, and what stands behind, change nothing
func TestBlanks(t *testing.T) {
	a := Source([]byte("MODULE M; VAR x*: SET; BEGIN HALT(3) END M."), nil)
	b := Source([]byte(" (* *)\n MODULE M; VAR x*: SET; BEGIN HALT(3) END M. !\"more"), nil)
	if a.Err != 0 || !object.Same(a.Object, b.Object) || !symfile.Same(a.Face, b.Face) {
		t.Error(a.Err, b.Err)
	}
}

// P14.3: a face that would import its own name
func TestOwnName(t *testing.T) {
	s, _ := store.New(1 << 16)
	for _, source := range []string{"MODULE A; TYPE T* = RECORD END; END A.", "MODULE B; IMPORT A; TYPE U* = A.T; VAR v*: U; END B."} {
		s.Put("source", []byte(source))
		Build(s)
	}
	for source, want := range map[string]int{"MODULE A; IMPORT B; TYPE T* = RECORD x: INTEGER END; VAR v: T; w: B.U; END A.": 0, "MODULE A; IMPORT B; VAR w*: B.U; END A.": 63, "MODULE C; IMPORT B; VAR w*: B.U; END C.": 0} {
		if m := Source([]byte(source), Files(s)); m.Err != want {
			t.Error(source, m.Err)
		}
	}
}
