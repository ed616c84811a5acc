package boot

import (
	"fmt"
	"os"
	"strconv"
	"strings"
	"testing"

	"selfsame/api"
	"selfsame/compile"
	"selfsame/key"
	"selfsame/store"
	"selfsame/symfile"
	"selfsame/typing"
	"selfsame/word"
)

// dice are random numbers.
type dice uint64

func (d *dice) n(n int) int {
	*d = *d*6364136223846793005 + 1442695040888963407
	return int(uint64(*d) >> 33 % uint64(n))
}

func often(n int) int {
	if k, err := strconv.Atoi(os.Getenv("SELFSAME")); err == nil {
		return n * k
	}
	return n
}

// ref is a reference that leads to something for the most part.
func (d *dice) ref(f *api.Face, others []api.Face, types int) api.Ref {
	switch k := d.n(10); {
	case k < 4:
		return api.Ref{Index: 1 + d.n(6)}
	case k < 7 && types > 0:
		return api.Ref{Index: 16 + d.n(types)}
	case k < 9 && len(f.Imports) > 0:
		m := d.n(len(f.Imports))
		for _, o := range others {
			if o.Name == f.Imports[m].Name && len(o.Types) > 0 {
				return api.Ref{Module: m + 1, Index: 16 + d.n(len(o.Types)+d.n(8)/7)}
			}
		}
	}
	return api.Ref{Index: 1}
}

// face is a random face, which imports some of others.
func (d *dice) face(name string, others []api.Face) api.Face {
	f := api.Face{Name: name}
	for _, o := range others {
		if d.n(2) == 0 {
			_, k, _ := symfile.Bytes(o)
			if d.n(40) == 0 {
				k++
			}
			f.Imports = append(f.Imports, api.Import{Name: o.Name, Key: k})
		}
	}
	types := d.n(6)
	for range types {
		t := api.FaceType{Form: api.Form(1 + d.n(4))}
		switch t.Form {
		case api.FormArray:
			t.Length, t.Size = 1+d.n(9), 4*(1+d.n(9))
			if d.n(9) == 0 {
				t.Length, t.Size = 65535, 1<<18
			}
		case api.FormRecord:
			t.Size = 4 * (1 + d.n(9))
			for i := range d.n(5) {
				t.Fields = append(t.Fields, api.FaceField{Name: fmt.Sprint("f", i), Offset: 4 * d.n(8), Base: d.ref(&f, others, types)})
			}
		}
		if t.Form != api.FormRecord {
			t.Base = d.ref(&f, others, types)
		}
		f.Types = append(f.Types, t)
	}
	for i := range d.n(7) {
		o := api.FaceObject{Class: api.Class(1 + d.n(4)), Name: fmt.Sprint("x", i), Base: d.ref(&f, others, types)}
		switch o.Class {
		case api.ClassConst:
			o.Base, o.Value = api.Ref{Index: []int{1, 2, 3, 5}[d.n(4)]}, uint32(d.n(2))
		case api.ClassVar:
			o.Value = uint32(4 * d.n(9))
		case api.ClassProc:
			o.Value = uint32(1 + i)
			if d.n(2) == 0 {
				o.Base = api.Ref{}
			}
			for range d.n(4) {
				o.Params = append(o.Params, api.FaceParam{Var: d.n(2) == 0, Base: d.ref(&f, others, types)})
			}
		}
		f.Objects = append(f.Objects, o)
	}
	return f
}

// source is a module that makes something of others.
func (d *dice) source(names []string) string {
	m := func() string { return names[d.n(len(names))] + fmt.Sprint(".x", d.n(6)) }
	v := func() string {
		return []string{"a", "b", "c", "i", "NIL", "1", m(), m() + ".f1", m() + "^", m() + "[0]", "a.f0", "a[i]", "a^", "b.f2", "b[1].f0", m() + "()", m() + "(a)"}[d.n(17)]
	}
	s := "MODULE M; IMPORT " + strings.Join(names, ", ") + "; TYPE T* = " + []string{m(), "RECORD a: " + m() + " END", "POINTER TO " + m(), "ARRAY 2 OF " + m()}[d.n(4)] + "; VAR i: INTEGER; a*: " + m() + "; b: " + m() + "; c: T; "
	s += "PROCEDURE P*(VAR x: " + m() + "; y: " + []string{"", "ARRAY OF "}[d.n(2)] + m() + "); BEGIN x := y END P; "
	if d.n(2) == 0 {
		s = strings.Replace(s, "BEGIN x := y END P", "END P", 1)
	}
	s += "BEGIN "
	for range d.n(4) {
		s += []string{v() + " := " + v(), m() + "(" + v() + ")", m() + "(" + v() + ", " + v() + ")", "P(" + v() + ", " + v() + ")", "NEW(" + v() + ")", "INC(" + v() + ")", "i := LEN(" + v() + ")", "IF " + v() + " = " + v() + " THEN END"}[d.n(8)] + "; "
	}
	return s + "END M."
}

// P22.3, P0.1, P0.3: symbol files that nobody compiled
func TestFaces(t *testing.T) {
	files := stage(t, 1)
	d := dice(7)
	if k, err := strconv.Atoi(os.Getenv("FIRST")); err == nil {
		d = dice(k)
	}
	for range often(150) {
		s, _ := store.New(1 << 20)
		var faces []api.Face
		var names []string
		for _, name := range []string{"A", "B", "C", "M", "D"} {
			f := d.face(name, faces)
			b, _, e := symfile.Bytes(f)
			for e != api.OK {
				f = d.face(name, faces)
				b, _, e = symfile.Bytes(f)
			}
			if d.n(30) > 0 {
				s.Put(symfile.File(name), b)
				faces = append(faces, f)
			}
			if name != "M" && d.n(2) == 0 {
				names = append(names, name)
			}
		}
		if len(names) == 0 {
			names = []string{"D"}
		}
		source := d.source(names)
		s.Put("source", []byte(source))
		m := compile.Source([]byte(source), compile.Files(s))
		face, e := typing.Source([]byte(source), faces...)
		_, k, _ := symfile.Bytes(face)
		if m.Err == 0 && (e != api.OK || k != m.Object.Key) || m.Err > 0 && m.Err < 60 && e == api.OK {
			t.Errorf("%s: %d at %d, typing %v", source, m.Err, m.Pos, e)
		}
		both(t, files, s)
	}
}

// P22.3, P0.3: bytes that are no symbol file's, but for their key
func TestFaceBytes(t *testing.T) {
	files := stage(t, 1)
	d := dice(3)
	a := api.Face{Name: "A", Types: []api.FaceType{{Form: api.FormPointer, Base: api.Ref{Index: 1}}}}
	_, k, _ := symfile.Bytes(a)
	b := api.Face{Name: "Bc", Imports: []api.Import{{Name: "A", Key: k}, {Name: "D", Key: 1}},
		Types:   []api.FaceType{{Form: api.FormArray, Length: 3, Size: 12, Base: api.Ref{Module: 1, Index: 16}}, {Form: api.FormRecord, Size: 8, Fields: []api.FaceField{{Name: "a", Base: api.Ref{Index: 3}}, {Name: "b", Offset: 4, Base: api.Ref{Index: 16}}}}, {Form: api.FormOpen, Base: api.Ref{Index: 3}}},
		Objects: []api.FaceObject{{Class: api.ClassConst, Name: "c", Base: api.Ref{Index: 2}, Value: 1}, {Class: api.ClassConst, Name: "d", Base: api.Ref{Index: 3}, Value: 200}, {Class: api.ClassType, Name: "T", Base: api.Ref{Index: 17}}, {Class: api.ClassVar, Name: "v", Base: api.Ref{Index: 6}, Value: 8}, {Class: api.ClassProc, Name: "P", Value: 200, Params: []api.FaceParam{{Var: true, Base: api.Ref{Index: 18}}}}, {Class: api.ClassProc, Name: "Q", Base: api.Ref{Index: 4}, Value: 1}}}
	b.Imports = b.Imports[:1]
	whole, _, e := symfile.Bytes(b)
	if e != api.OK {
		t.Fatal(e)
	}
	values := []int{0, 1, 2, 3, 4, 5, 6, 7, 15, 16, 17, 18, 19, 48, 65, 97, 98, 100, 101, 127, 128, 200, 201, 255}
	for i := range whole {
		for range often(2) {
			c := append([]byte(nil), whole...)
			c[i] = byte(values[d.n(len(values))])
			switch d.n(12) {
			case 0:
				c = c[:i]
			case 1:
				c = append(c, byte(d.n(256)))
			case 2:
				c = append(c[:i], c[min(i+1+d.n(3), len(c)):]...)
			}
			if len(c) > 9 && d.n(20) > 0 {
				copy(c[5:], word.Bytes(key.Of(c[9:])))
			}
			s, _ := store.New(1 << 20)
			s.Put("Bc.s", c)
			bytes, _, _ := symfile.Bytes(a)
			s.Put("A.s", bytes)
			s.Put("source", []byte("MODULE M; IMPORT Bc; VAR x*: Bc.T; END M."))
			both(t, files, s)
		}
	}
}

// P22.3, P0.3: great symbol files, and many
func TestGreatFaces(t *testing.T) {
	files := stage(t, 1)
	integer := api.Ref{Index: 1}
	consts := func(n int, name string) api.Face {
		f := api.Face{Name: name}
		for i := range n {
			f.Objects = append(f.Objects, api.FaceObject{Class: api.ClassConst, Name: fmt.Sprint("c", i), Base: integer})
		}
		return f
	}
	types := func(n, fields int) api.Face {
		f := api.Face{Name: "A"}
		for range n {
			x := api.FaceType{Form: api.FormRecord, Size: 4}
			for i := range fields {
				x.Fields = append(x.Fields, api.FaceField{Name: fmt.Sprint("f", i), Base: integer})
			}
			f.Types = append(f.Types, x)
		}
		return f
	}
	procs := api.Face{Name: "A"}
	for i := range 200 {
		o := api.FaceObject{Class: api.ClassProc, Name: fmt.Sprint("p", i), Value: uint32(i + 1)}
		for range 12 {
			o.Params = append(o.Params, api.FaceParam{Base: integer})
		}
		procs.Objects = append(procs.Objects, o)
	}
	chain := func(n int) []api.Face {
		var l []api.Face
		for i := range n {
			f := api.Face{Name: fmt.Sprint("A", i)}
			if i == n-1 {
				f.Name = "A"
			}
			if i > 0 {
				_, k, _ := symfile.Bytes(l[i-1])
				f.Imports = []api.Import{{Name: l[i-1].Name, Key: k}}
			}
			l = append(l, f)
		}
		return l
	}
	for n, x := range []struct {
		faces []api.Face
		code  int
	}{
		{[]api.Face{consts(600, "A"), consts(299, "B")}, 63}, {[]api.Face{consts(600, "A"), consts(298, "B")}, 0}, {[]api.Face{consts(600, "A"), consts(301, "B")}, 63}, {[]api.Face{consts(640, "A")}, 0}, {[]api.Face{consts(641, "A")}, 0}, {[]api.Face{consts(642, "A")}, 62}, {[]api.Face{consts(900, "A")}, 62},
		{[]api.Face{types(194, 0)}, 0}, {[]api.Face{types(195, 0)}, 64}, {[]api.Face{types(20, 100)}, 0}, {[]api.Face{types(21, 100)}, 73}, {[]api.Face{types(40, 100)}, 73}, {[]api.Face{types(80, 100)}, 26}, {[]api.Face{procs}, 0}, {chain(12), 0}, {chain(13), 69}, {chain(14), 69},
	} {
		s, _ := store.New(1 << 22)
		for _, f := range x.faces {
			b, _, e := symfile.Bytes(f)
			if e != api.OK {
				t.Fatal(n, e)
			}
			s.Put(symfile.File(f.Name), b)
		}
		source := "MODULE M; IMPORT A; END M."
		if x.faces[len(x.faces)-1].Name == "B" {
			source = "MODULE M; IMPORT A, B; END M."
		}
		s.Put("source", []byte(source))
		if m := compile.Source([]byte(source), compile.Files(s)); m.Err != x.code {
			t.Error(n, m.Err)
		}
		both(t, files, s)
	}
}
