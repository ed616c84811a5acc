package console

import (
	"strings"
	"testing"

	"selfsame/api"
	"selfsame/compile"
	"selfsame/self"
	"selfsame/store"
)

// said says lines, and tells whether each is answered as it stands behind it.
func said(t *testing.T, c *Console, l ...string) {
	t.Helper()
	for i := 0; i < len(l); i += 2 {
		if got := strings.Join(c.Say(l[i]), "; "); got != l[i+1] {
			t.Errorf("%.100q: %.300q, not %.300q", l[i], got, l[i+1])
		}
	}
}

// P26.1: the chapter's example
func TestExample(t *testing.T) {
	c := New()
	said(t, c, "files", "error 7", "capacity 9999", "ok", "add a MODULE A; BEGIN HALT(3) END A.", "ok", "build a", "ok", "run A 4096 99", "halt 3 5", "mean A 99 a", "halt 3 1", "type a", "well", "order A", "module A", "word c700000f", "B T R15")
	text := "files\ncapacity 9999\nadd a MODULE A; BEGIN HALT(3) END A.\nbuild a\nrun A 4096 99\nmean A 99 a\ntype a\norder A\nword c700000f"
	want := "error 7\nok\nok\nok\nhalt 3 5\nhalt 3 1\nwell\nmodule A\nB T R15\n"
	for _, text := range []string{text, text + "\n"} {
		if got, e := New().Run(text); got != want || e != api.OK {
			t.Errorf("%q %v", got, e)
		}
	}
	if got, e := New().Run(""); got != "" || e != api.OK {
		t.Error(got, e)
	}
	if got, _ := New().Run("\n\nend"); got != "error 4\nerror 4\nok\n" {
		t.Error(got)
	}
}

// P26.1: all kinds of lines
func TestLines(t *testing.T) {
	c := New()
	if c.Begun() || c.Store() != nil {
		t.Error("begun")
	}
	said(t, c, "end", "ok", "capacity 67108865", "error 2", "capacity 1099511627777", "error 4", "capacity 05", "error 4", "capacity -1", "error 4", "capacity", "error 4", "capacity 5 ", "error 4", "capacity 400", "ok",
		"files", "", "put a 0aff", "ok", "put b -", "ok", "get a", "0aff", "get b", "-", "get c", "error 6", "get 9", "error 2", "get", "error 4", "get a b", "error 4", "get ", "error 4", "files", "file a 2; file b 0", "files ", "error 4", "files a", "error 4",
		"put a 0", "error 4", "put c "+strings.Repeat("00", 401), "error 5", "add b x := 1", "ok", "add b ", "ok", "get b", "78203a3d20310a0a", "add c ~", "ok", "get c", "7e0a", "drop c", "ok", "drop c", "error 6", "drop a", "ok", "add c "+strings.Repeat("y", 201), "error 4",
		"build c", "error 6", "build b", "error 10 0", "files", "file b 8; file error 8", "get error", "0a00000000000000", "drop error", "ok",
		"add m MODULE M; VAR x*: INTEGER; p*: POINTER TO R; BEGIN x := TRUE END M.", "ok", "build m", "error 11 42", "type m", "wrong 7", "drop m", "ok", "drop error", "ok", "type m", "error 6", "type b", "wrong 4", "judge b", "right", "judge m", "error 6", "judge 9", "error 2",
		"add m MODULE M; TYPE R* = RECORD a: CHAR END; VAR x*: INTEGER; BEGIN x := 2; HALT(x) END M.", "ok", "build m", "ok", "judge m", "right", "type m", "well", "face M", "TYPE 16 RECORD 4 a 0 3; TYPE R 16; VAR x 1 0", "face N", "error 6", "face 9", "error 2", "face", "error 4", "order M", "module M", "order N", "error 6", "order m.x", "error 2",
		"plain m", "| MODULE M ;; | TYPE R * = RECORD a : CHAR END ;; | VAR x * : INTEGER ;; | BEGIN x := 2 ;; | HALT ( x ) END M .", "plain b", "error 4", "plain n", "error 6",
		"run M 4096 99", "halt 2 11", "run M 4096 3", "fuel 3", "run M 4097 3", "error 2", "run N 4096 3", "error 6", "run M 64 3", "error 10", "run M", "error 4", "mean M 99 m", "halt 2 2", "mean M 1 m", "fuel 1", "mean M 9 n m", "error 6", "mean M 9 b n", "error 6", "mean M 9 m b", "error 4", "mean N 9 m", "error 6", "mean M 9 m m", "error 2", "mean M 9", "error 4",
		"word 00000000", "MOV R0 R0", "word 000c0000", "error 4", "word C700000F", "error 4", "word 0", "error 4", "own", "error 5", "own ", "error 4", "nothing", "error 4", "", "error 4", "get\nb", "error 4", "end\n", "error 4", " files", "error 4", strings.Repeat("x", api.MaxScript+1), "error 3")
	said(t, c, strings.Repeat("x", api.MaxScript), "error 4")
	zero := New()
	said(t, zero, "capacity 0", "ok", "put a -", "ok", "put a 00", "error 5")
	if got, e := zero.Run(strings.Repeat("x", api.MaxScript)); got != "error 4\n" || e != api.OK {
		t.Error(got, e)
	}
	s := c.Store()
	s.Put("zz", nil)
	said(t, c, "get zz", "error 6", "put M.s 00", "ok", "face M", "error 4", "end", "ok", "get b", "error 7", "own", "error 7", "word 00000000", "error 7", "capacity 5", "ok", "files", "")
	if !c.Begun() {
		t.Error("begun")
	}
	c.Say("end")
	if c.Begun() || c.Store() != nil {
		t.Error("ended")
	}
}

// P26.1, P26.2: the compiler's own sources
func TestOwn(t *testing.T) {
	c := New()
	said(t, c, "capacity 1000000", "ok", "own", "ok")
	for _, name := range self.Modules() {
		said(t, c, "build "+name+".Mod", "ok", "judge "+name+".Mod", "right", "type "+name+".Mod", "well")
	}
	said(t, c, "order Main", "module Scan; module Types; module Scope; module Gen; module Main", "add source MODULE X; VAR y*: SET; END X.", "ok", "run Main 2097152 0", "fuel 0")
	if got := c.Say("run Main 2097152 99999999"); !strings.HasPrefix(got[0], "halt 0 ") {
		t.Error(got)
	}
	said(t, c, "face X", "VAR y 5 0")
	small := New()
	said(t, small, "capacity 8000", "ok", "own", "error 5")
	if got := small.Say("files"); len(got) != 1 || !strings.HasPrefix(got[0], "file Scan.Mod ") {
		t.Error(got)
	}
}

// P26.1: what is built as 'source' is dropped
func TestBuild(t *testing.T) {
	c := New()
	said(t, c, "capacity 1000", "ok", "add source MODULE A; END A.", "ok", "build source", "ok", "get source", "error 6", "add a MODULE B; IMPORT A; END B.", "ok", "build a", "ok", "get source", "error 6", "add b x", "ok", "build b", "error 10 0", "get source", "error 6", "order B", "module A; module B")
	source := "MODULE Q; BEGIN HALT(1) END Q."
	m := compile.Source([]byte(source), nil)
	if m.Err != 0 {
		t.Fatal(m.Err)
	}
	said(t, c, "capacity 80", "ok", "add q "+source, "ok", "build q", "error 5", "files", "file q 31", "capacity 50", "ok", "add q "+source, "ok", "build q", "error 5", "files", "file q 31")
}

func TestNil(t *testing.T) {
	for _, c := range []*Console{nil, {}} {
		got, e := c.Run("files")
		if c.Say("capacity 9") != nil || got != "" || e != api.ErrNil || c.Begun() || c.Store() != (*store.Store)(nil) {
			t.Error(got, e)
		}
	}
	if got, e := New().Run(strings.Repeat("x", api.MaxScript+1)); got != "" || e != api.ErrLong {
		t.Error(got, e)
	}
}
