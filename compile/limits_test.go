package compile

import (
	"fmt"
	"strings"
	"testing"

	"selfsame/api"
	"selfsame/object"
	"selfsame/samples"
	"selfsame/store"
	"selfsame/symfile"
	"selfsame/word"
)

// many joins texts made of numbers.
func many(n int, format string) string {
	var b strings.Builder
	for i := range n {
		b.WriteString(strings.ReplaceAll(format, "#", fmt.Sprint(i)))
	}
	return b.String()
}

// P0.1: what is beyond a limit has that limit's number, what is not is compiled
func TestLimits(t *testing.T) {
	for n, x := range samples.Limits() {
		m := Source([]byte(x.Source), nil)
		if m.Err != x.Code || m.Pos > len(x.Source) {
			t.Errorf("%d %.60s: error %d at %d, not %d", n, x.Source, m.Err, m.Pos, x.Code)
		}
		if m.Err == 0 && (!object.May(m.Object) || !symfile.May(m.Face)) {
			t.Error(n, "may not be")
		}
	}
}

// P0.1: fields of all records, fixups, imports, a long face
func TestGreatLimits(t *testing.T) {
	s, _ := store.New(1 << 22)
	var names []string
	for i := range 13 {
		name := fmt.Sprint("A", i)
		names = append(names, name)
		s.Put("source", []byte("MODULE "+name+"; VAR v*: INTEGER; PROCEDURE P*; END P; END "+name+"."))
		Build(s)
	}
	if m := Source([]byte("MODULE M; IMPORT "+strings.Join(names, ", ")+"; END M."), Files(s)); m.Err != 69 {
		t.Error(m.Err)
	}
	if m := Source([]byte("MODULE M; IMPORT "+strings.Join(names[:12], ", ")+"; END M."), Files(s)); m.Err != 0 {
		t.Error(m.Err)
	}
	if m := Source([]byte("MODULE M; IMPORT A0; BEGIN "+many(8192, "A0.P; ")+"END M."), Files(s)); m.Err != 0 {
		t.Error(m.Err, m.Pos)
	}
	if m := Source([]byte("MODULE M; IMPORT A0; BEGIN "+many(8193, "A0.P; ")+"END M."), Files(s)); m.Err != 71 {
		t.Error(m.Err)
	}
}

// P14.2
func TestBuild(t *testing.T) {
	for _, s := range []*store.Store{nil, {}} {
		if _, _, e := Build(s); e != api.ErrNil {
			t.Error(e)
		}
		if _, ok := Files(s)("a"); ok {
			t.Error("a file")
		}
	}
	s, _ := store.New(200)
	if _, _, e := Build(s); e != api.ErrNone {
		t.Error(e)
	}
	source := "MODULE M; VAR x: INTEGER; BEGIN x := TRUE END M."
	s.Put("source", []byte(source))
	code, pos, e := Build(s)
	b, _ := s.Get("error")
	if code < 1 || code > 59 || pos < 36 || pos > 45 || e != api.OK || string(b) != string(word.Bytes(uint32(code), uint32(pos))) {
		t.Error(code, pos, e, b)
	}
	n := 0
	for range s.Files() {
		n++
	}
	if n != 2 {
		t.Error(n)
	}
	s.Put("source", []byte("MODULE M; BEGIN HALT(3) END M."))
	if code, pos, e := Build(s); code != 0 || pos != 0 || e != api.OK {
		t.Error(code, pos, e)
	}
	m := Source([]byte("MODULE M; BEGIN HALT(3) END M."), nil)
	face, _, _ := symfile.Bytes(m.Face)
	obj, _ := object.Bytes(m.Object)
	f, ok := Files(s)("M.s")
	o, _ := Files(s)("M.o")
	if !ok || string(f) != string(face) || string(o) != string(obj) {
		t.Error("files")
	}
	for room := range len(face) + len(obj) {
		s, _ := store.New(30 + room)
		s.Put("source", []byte("MODULE M; BEGIN HALT(3) END M."))
		before := s.Copy()
		if _, _, e := Build(s); e != api.ErrFull || !s.Same(before) {
			t.Error(room, e)
		}
	}
	s, _ = store.New(30)
	s.Put("source", []byte("MODULE M; BEGIN HALT(b) END M."))
	if code, _, e := Build(s); code != 0 || e != api.ErrFull {
		t.Error(code, e)
	}
}

// P14.1: blanks ahead, and what stands behind, change nothing
func TestBlanks(t *testing.T) {
	a := Source([]byte("MODULE M; VAR x*: SET; BEGIN HALT(3) END M."), nil)
	b := Source([]byte(" (* *)\n MODULE M; VAR x*: SET; BEGIN HALT(3) END M. !\"more"), nil)
	if a.Err != 0 || !object.Same(a.Object, b.Object) || !symfile.Same(a.Face, b.Face) {
		t.Error(a.Err, b.Err)
	}
}

// P14.3: a face that would import its own name
func TestOwnName(t *testing.T) {
	s, _ := store.New(1 << 16)
	for _, source := range []string{"MODULE A; TYPE T* = RECORD END; END A.", "MODULE B; IMPORT A; TYPE U* = A.T; VAR v*: U; END B."} {
		s.Put("source", []byte(source))
		Build(s)
	}
	for source, want := range map[string]int{"MODULE A; IMPORT B; TYPE T* = RECORD x: INTEGER END; VAR v: T; w: B.U; END A.": 0, "MODULE A; IMPORT B; VAR w*: B.U; END A.": 63, "MODULE C; IMPORT B; VAR w*: B.U; END C.": 0} {
		if m := Source([]byte(source), Files(s)); m.Err != want {
			t.Error(source, m.Err)
		}
	}
}
