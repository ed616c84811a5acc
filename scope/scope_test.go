package scope

import (
	"fmt"
	"slices"
	"testing"

	"selfsame/api"
	"selfsame/scan"
	"selfsame/symfile"
	"selfsame/types"
)

func fresh() (*Scope, *scan.Scanner, *types.Table) {
	s, t := scan.New(nil), types.New()
	return New(s, t), s, t
}

func basic(i int) api.Ref { return api.Ref{Index: i} }

func own(i int) api.Ref { return api.Ref{Index: 16 + i} }

func of(m, i int) api.Ref { return api.Ref{Module: m, Index: 16 + i} }

func keyOf(t *testing.T, f api.Face) uint32 {
	t.Helper()
	_, k, e := symfile.Bytes(f)
	if e != api.OK {
		t.Fatal(f.Name, e)
	}
	return k
}

// files tells the symbol files of faces.
func files(l ...api.Face) func(string) ([]byte, bool) {
	return func(name string) ([]byte, bool) {
		for _, f := range l {
			if name == f.Name+".s" {
				b, _, e := symfile.Bytes(f)
				return b, e == api.OK
			}
		}
		return nil, false
	}
}

// P13.1, P13.2
func TestPredeclared(t *testing.T) {
	c, s, _ := fresh()
	for i, name := range []string{"INTEGER", "BOOLEAN", "CHAR", "BYTE", "SET", "ABS", "ODD", "ORD", "CHR", "LSL", "ASR", "LEN", "OLD", "FRESH", "EOF", "LENGTH", "INC", "DEC", "NEW", "ASSERT", "HALT", "READ", "WRITE", "READW", "WRITEW", "SEEK", "REGISTER", "DELETE"} {
		n, ok := c.Find(s.Intern(name))
		x, there := c.Get(n)
		want := api.Thing{Class: api.ClassType, Name: s.Intern(name), Type: i + 1}
		if i >= 5 {
			want = api.Thing{Class: api.ClassStd, Name: s.Intern(name), Value: int32(i - 4)}
		}
		if n != i+1 || !ok || !there || fmt.Sprint(x) != fmt.Sprint(want) {
			t.Error(name, n, x)
		}
	}
	if c.Len() != 0 || c.Level() != 0 || New(nil, types.New()) != nil || New(s, nil) != nil || New(&scan.Scanner{}, types.New()) != nil || New(s, &types.Table{}) != nil {
		t.Error(c.Len())
	}
}

// P13.1, P13.2
func TestDeclare(t *testing.T) {
	c, s, _ := fresh()
	x, y := s.Intern("x"), s.Intern("y")
	abs := s.Intern("ABS")
	params := []api.Param{{Var: true, Type: 1}}
	a, code := c.Declare(api.Thing{Class: api.ClassProc, Name: x, Type: 2, Level: 9, Value: -7, Params: params})
	params[0].Type = 5
	if got, ok := c.Get(a); code != 0 || !ok || a != 29 || got.Level != 0 || got.Value != -7 || got.Params[0].Type != 1 {
		t.Error(a, code, got)
	}
	if n, code := c.Declare(api.Thing{Name: x}); n != 0 || code != 12 {
		t.Error(n, code)
	}
	b, code := c.Declare(api.Thing{Class: api.ClassVar, Name: abs})
	if n, ok := c.Find(abs); code != 0 || n != b || !ok {
		t.Error("over a predeclared one", n)
	}
	c.Open()
	c.Open()
	d, _ := c.Declare(api.Thing{Class: api.ClassVar, Name: x})
	if n, ok := c.Find(x); n != d || !ok || c.Level() != 2 || d != 31 {
		t.Error(n)
	}
	if got, _ := c.Get(d); got.Level != 2 {
		t.Error(got)
	}
	c.Set(d, api.Thing{Class: api.ClassConst, Name: y, Level: 7, Value: 5, Shown: true})
	if got, _ := c.Get(d); got.Name != x || got.Level != 2 || got.Value != 5 || got.Class != api.ClassConst || !got.Shown {
		t.Error(got)
	}
	c.Set(99, api.Thing{})
	c.Set(0, api.Thing{})
	handed := []api.Param{{Type: 3}}
	c.Set(a, api.Thing{Class: api.ClassProc, Value: -7, Params: handed})
	handed[0].Type = 4
	out, _ := c.Get(a)
	if out.Params[0].Type != 3 {
		t.Error("Set keeps")
	}
	out.Params[0].Type = 5
	if out, _ = c.Get(a); out.Params[0].Type != 3 {
		t.Error("Get hands out")
	}
	if _, ok := c.Find(y); ok {
		t.Error("y")
	}
	c.Close()
	if n, _ := c.Find(x); n != a || c.Level() != 1 {
		t.Error(n)
	}
	c.Close()
	c.Close()
	c.Close()
	if n, ok := c.Find(y); ok || n != 0 || c.Level() != 0 || c.Len() != 3 {
		t.Error("the module's list stays", c.Level(), c.Len())
	}
	if _, ok := c.Get(0); ok {
		t.Error("0")
	}
	if _, ok := c.Get(32); ok {
		t.Error("32")
	}
	for c.Len() < api.MaxObjects {
		c.Open()
		if _, code := c.Declare(api.Thing{Name: x}); code != 0 {
			t.Fatal(code)
		}
		c.Close()
	}
	if n, code := c.Declare(api.Thing{Name: y}); n != 0 || code != 63 {
		t.Error(n, code)
	}
	if n, code := c.Declare(api.Thing{Name: x}); n != 0 || code != 12 {
		t.Error(n, code)
	}
}

func faces(t *testing.T) []api.Face {
	b := api.Face{Name: "B", Types: []api.FaceType{{Form: api.FormRecord, Size: 8, Fields: []api.FaceField{{Name: "p", Base: own(1)}, {Name: "q", Offset: 4, Base: basic(3)}}}, {Form: api.FormPointer, Base: own(0)}, {Form: api.FormOpen, Base: basic(3)}},
		Objects: []api.FaceObject{{Class: api.ClassType, Name: "R", Base: own(0)}, {Class: api.ClassProc, Name: "X", Value: 3, Params: []api.FaceParam{{Var: true, Base: own(2)}}}}}
	d := api.Face{Name: "D", Imports: []api.Import{{Name: "B", Key: keyOf(t, b)}}, Types: []api.FaceType{{Form: api.FormPointer, Base: of(1, 0)}}, Objects: []api.FaceObject{{Class: api.ClassVar, Name: "r", Base: of(1, 1), Value: 4}}}
	a := api.Face{Name: "A", Imports: []api.Import{{Name: "D", Key: keyOf(t, d)}, {Name: "B", Key: keyOf(t, b)}}, Types: []api.FaceType{{Form: api.FormArray, Length: 3, Size: 24, Base: of(2, 0)}, {Form: api.FormPointer, Base: of(1, 0)}},
		Objects: []api.FaceObject{{Class: api.ClassConst, Name: "c", Base: basic(1), Value: 1<<32 - 1}, {Class: api.ClassVar, Name: "v", Base: own(0), Value: 8}, {Class: api.ClassProc, Name: "P", Base: own(1), Value: 2, Params: []api.FaceParam{{Base: of(2, 1)}, {Var: true, Base: basic(4)}}}}}
	return []api.Face{a, b, d}
}

// P13.3
func TestImport(t *testing.T) {
	c, s, table := fresh()
	l := faces(t)
	before := s.Names()
	n, code := c.Import(s.Intern("A"), files(l...))
	if n != 1 || code != 0 || s.Name(before+1) != "D" || s.Name(before+2) != "B" || s.Name(before+3) != "p" || s.Name(before+4) != "q" || s.Name(before+5) != "c" || s.Name(before+6) != "v" || s.Names() != before+8 {
		t.Error(n, code, s.Name(before+1), s.Name(before+2), s.Name(before+3), s.Names())
	}
	for i, want := range map[int]api.Type{
		7:  {Form: api.FormRecord, Size: 8, Module: 3, Fields: []api.Field{{Name: s.Intern("p"), Type: 8}, {Name: s.Intern("q"), Offset: 4, Type: 3}}},
		8:  {Form: api.FormPointer, Size: 4, Base: 7, Module: 3, Ref: 1},
		9:  {Form: api.FormOpen, Size: 8, Base: 3, Module: 3, Ref: 2},
		10: {Form: api.FormPointer, Size: 4, Base: 7, Module: 2},
		11: {Form: api.FormArray, Length: 3, Size: 24, Base: 7, Module: 1},
		12: {Form: api.FormPointer, Size: 4, Base: 10, Module: 1, Ref: 1},
	} {
		if got, _ := table.Get(i); fmt.Sprint(got) != fmt.Sprint(want) {
			t.Error(i, got, want)
		}
	}
	for name, want := range map[string]api.Thing{
		"c": {Class: api.ClassConst, Type: 1, Value: -1, Module: 1, Shown: true},
		"v": {Class: api.ClassVar, Type: 11, Value: 8, Module: 1, Shown: true, Fixed: true},
		"P": {Class: api.ClassProc, Type: 12, Value: 2, Module: 1, Shown: true, Params: []api.Param{{Type: 8}, {Var: true, Type: 4}}},
	} {
		want.Name = s.Intern(name)
		k, ok := c.FindIn(1, want.Name)
		if got, _ := c.Get(k); !ok || fmt.Sprint(got) != fmt.Sprint(want) {
			t.Error(name, got, want)
		}
		if _, ok := c.Find(want.Name); ok {
			t.Error(name, "is no thing of the module's list")
		}
	}
	k, _ := c.Find(s.Intern("A"))
	if got, _ := c.Get(k); got.Class != api.ClassModule || got.Value != 1 || got.Module != 1 || c.Len() != 4 {
		t.Error(got, c.Len())
	}
	if _, ok := c.FindIn(3, s.Intern("R")); ok {
		t.Error("B is hidden")
	}
	if !slices.Equal(c.Imports(), []api.Import{{Name: "A", Key: keyOf(t, l[0])}}) {
		t.Error(c.Imports())
	}
	if n, code := c.Import(s.Intern("A"), files()); n != 0 || code != 27 {
		t.Error(n, code)
	}
	if n, code := c.Import(s.Intern("B"), files(l...)); n != 3 || code != 0 || table.Len() != 12 {
		t.Error(n, code, table.Len())
	}
	if k, ok := c.FindIn(3, s.Intern("X")); !ok {
		t.Error("B is not hidden any more")
	} else if got, _ := c.Get(k); got.Params[0] != (api.Param{Var: true, Type: 9}) {
		t.Error(got)
	}
	if !slices.Equal(c.Imports(), []api.Import{{Name: "A", Key: keyOf(t, l[0])}, {Name: "B", Key: keyOf(t, l[1])}}) {
		t.Error(c.Imports())
	}
	if _, ok := c.FindIn(9, 1); ok {
		t.Error(9)
	}
	c.Declare(api.Thing{Class: api.ClassVar, Name: s.Intern("E")})
	if _, code := c.Import(s.Intern("E"), files()); code != 27 {
		t.Error(code)
	}
}

// P13.3: what is refused
func TestRefused(t *testing.T) {
	l := faces(t)
	other := l[1]
	other.Objects = nil
	noType, open := l[0], l[0]
	noType.Types = []api.FaceType{{Form: api.FormPointer, Base: of(2, 3)}}
	noType.Objects = nil
	open.Types = []api.FaceType{{Form: api.FormPointer, Base: of(2, 2)}}
	open.Objects = nil
	thing := l[2]
	thing.Objects = []api.FaceObject{{Class: api.ClassVar, Name: "r", Base: of(1, 9)}}
	over := api.Face{Name: "O", Imports: []api.Import{{Name: "D", Key: keyOf(t, thing)}}}
	for n, x := range []struct {
		name  string
		files []api.Face
		code  int
		kept  int
	}{
		{"A", nil, 26, 0}, {"A", l[1:], 26, 0}, {"A", l[:2], 26, 1}, {"A", []api.Face{l[0], other, l[2]}, 26, 1}, {"A", []api.Face{noType, l[1], l[2]}, 26, 1}, {"A", []api.Face{open, l[1], l[2]}, 26, 1}, {"D", []api.Face{thing, l[1]}, 26, 1}, {"O", []api.Face{over, thing, l[1]}, 0, 1},
	} {
		c, s, _ := fresh()
		k, code := c.Import(s.Intern(x.name), files(x.files...))
		if code != x.code || (k == 0) != (code != 0) || len(c.Imports()) != x.kept {
			t.Error(n, k, code, c.Imports())
		}
		k, again := c.Import(s.Intern(x.name), files(l...))
		if x.kept == 0 && again != 0 || x.kept == 1 && x.code != 0 && (again != 26 || k != 0) {
			t.Error(n, "again", again)
		}
	}
	c, s, _ := fresh()
	if _, code := c.Import(s.Intern("A"), nil); code != 26 {
		t.Error(code)
	}
	if n, code := c.Import(s.Intern("A"), func(string) ([]byte, bool) { panic("no") }); n != 0 || code != 26 {
		t.Error(n, code)
	}
	if n, code := c.Import(s.Intern("D"), files(other, l[2])); n != 0 || code != 26 {
		t.Error(n, code)
	}
	if n, code := c.Import(s.Intern("B"), files(other)); n != 2 || code != 0 {
		t.Error("of one that was refused for its key nothing is kept", n, code)
	}
	c, s, _ = fresh()
	b, _, _ := symfile.Bytes(l[1])
	if _, code := c.Import(s.Intern("B"), func(string) ([]byte, bool) { return b, false }); code != 26 {
		t.Error(code)
	}
	if _, code := c.Import(s.Intern("A"), func(string) ([]byte, bool) { return b, true }); code != 26 {
		t.Error("another name", code)
	}
	if _, code := c.Import(s.Intern("B"), func(string) ([]byte, bool) { return b[1:], true }); code != 26 {
		t.Error("no face", code)
	}
	if _, code := c.Import(-3, files(l...)); code != 26 {
		t.Error("no name", code)
	}
}

// P13.3: limits
func TestLimits(t *testing.T) {
	var l []api.Face
	for i := range 14 {
		f := api.Face{Name: fmt.Sprint("M", i)}
		for j := range 100 {
			f.Objects = append(f.Objects, api.FaceObject{Class: api.ClassConst, Name: fmt.Sprint("c", j), Base: basic(1)})
		}
		l = append(l, f)
	}
	c, s, _ := fresh()
	for i := range 9 {
		n, code := c.Import(s.Intern(l[i].Name), files(l...))
		if i < 8 && (n != i+1 || code != 0) || i == 8 && (n != 0 || code != 63 || c.Len() != api.MaxObjects) {
			t.Error(i, n, code, c.Len())
		}
	}
	if _, code := c.Import(s.Intern("X"), files()); code != 63 {
		t.Error(code)
	}
	c, s, _ = fresh()
	for i := range 13 {
		l[i].Objects = nil
		_, code := c.Import(s.Intern(l[i].Name), files(l...))
		if i < 12 && code != 0 || i == 12 && code != 69 {
			t.Error(i, code)
		}
	}
	if n, code := c.Import(s.Intern("X"), files()); n != 0 || code != 69 {
		t.Error(n, code)
	}
	big := api.Face{Name: "T"}
	for range 190 {
		big.Types = append(big.Types, api.FaceType{Form: api.FormPointer, Base: basic(1)})
	}
	c, s, table := fresh()
	for range 5 {
		table.Pointer(1)
	}
	if _, code := c.Import(s.Intern("T"), files(big)); code != 64 {
		t.Error(code)
	}
	for i := range 100 {
		l[13].Types = append(l[13].Types, api.FaceType{Form: api.FormRecord, Size: 4, Fields: []api.FaceField{{Name: fmt.Sprint("f", i), Base: basic(1)}}})
	}
	c, s, _ = fresh()
	for s.Names() < api.MaxNames-50 {
		s.Intern(fmt.Sprint("n", s.Names()))
	}
	if _, code := c.Import(s.Intern("M13"), files(l...)); code != 62 {
		t.Error(code)
	}
}

// P13.4, P13.5
func TestFace(t *testing.T) {
	c, s, table := fresh()
	l := faces(t)
	c.Import(s.Intern("A"), files(l...))
	m := s.Intern("M")
	r, _ := table.Record()
	p, _ := table.Pointer(r)
	table.Add(r, s.Intern("f"), p)
	table.Add(r, s.Intern("g"), 10)
	table.End(r)
	unused, _ := table.Array(3, 1)
	o, _ := table.Open(unused)
	declare := func(x api.Thing, name string) {
		x.Name = s.Intern(name)
		if _, code := c.Declare(x); code != 0 {
			t.Fatal(code)
		}
	}
	declare(api.Thing{Class: api.ClassConst, Type: 1, Value: -5, Shown: true}, "k")
	declare(api.Thing{Class: api.ClassVar, Type: unused, Value: 4}, "hidden")
	declare(api.Thing{Class: api.ClassVar, Type: p, Value: 16, Shown: true}, "w")
	declare(api.Thing{Class: api.ClassType, Type: 11, Shown: true}, "T")
	declare(api.Thing{Class: api.ClassProc, Value: 1, Shown: true, Params: []api.Param{{Type: o}, {Var: true, Type: 7}}}, "Q")
	f, ok := c.Face(m)
	want := api.Face{Name: "M", Imports: []api.Import{{Name: "D", Key: keyOf(t, l[2])}, {Name: "A", Key: keyOf(t, l[0])}, {Name: "B", Key: keyOf(t, l[1])}},
		Types:   []api.FaceType{{Form: api.FormPointer, Base: own(1)}, {Form: api.FormRecord, Size: 8, Fields: []api.FaceField{{Name: "f", Base: own(0)}, {Name: "g", Offset: 4, Base: of(1, 0)}}}, {Form: api.FormOpen, Base: own(3)}, {Form: api.FormArray, Length: 3, Size: 12, Base: basic(1)}},
		Objects: []api.FaceObject{{Class: api.ClassConst, Name: "k", Base: basic(1), Value: 1<<32 - 5}, {Class: api.ClassVar, Name: "w", Base: own(0), Value: 16}, {Class: api.ClassType, Name: "T", Base: of(2, 0)}, {Class: api.ClassProc, Name: "Q", Value: 1, Params: []api.FaceParam{{Base: own(2)}, {Var: true, Base: of(3, 0)}}}}}
	if !ok || !symfile.Same(f, want) {
		t.Error(ok, f)
	}
	if f, ok := c.Face(s.Intern("D")); ok || f.Name != "" {
		t.Error("an import of its own name", f)
	}
	if _, ok := c.Face(-1); ok {
		t.Error("no name")
	}
	// told again by a module that imports it
	d, ds, dt := fresh()
	if _, code := d.Import(ds.Intern("M"), files(append(l, f)...)); code != 0 {
		t.Fatal(code)
	}
	for _, name := range []string{"w", "T"} {
		n, _ := d.FindIn(1, ds.Intern(name))
		x, _ := d.Get(n)
		d.Declare(api.Thing{Class: api.ClassType, Name: ds.Intern(name), Type: x.Type, Shown: true})
	}
	g, ok := d.Face(ds.Intern("N"))
	if !ok || g.Objects[0].Base != of(1, 0) || g.Imports[0].Name != "M" || g.Objects[1].Base != of(2, 0) || g.Imports[1].Name != "A" || dt.Len() != 16 {
		t.Error(g, dt.Len())
	}
}

func TestNil(t *testing.T) {
	for _, c := range []*Scope{nil, {}} {
		c.Open()
		c.Close()
		c.Set(1, api.Thing{})
		_, a := c.Declare(api.Thing{})
		_, b := c.Import(1, nil)
		_, d := c.Find(1)
		_, e := c.Get(1)
		_, f := c.FindIn(1, 1)
		_, g := c.Face(1)
		if a == 0 || b == 0 || d || e || f || g || c.Level() != 0 || c.Len() != 0 || len(c.Imports()) != 0 {
			t.Error(a, b)
		}
	}
}
