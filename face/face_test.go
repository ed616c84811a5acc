package face

import (
	"slices"
	"testing"

	"selfsame/api"
	"selfsame/symfile"
)

func basic(i int) api.Ref { return api.Ref{Index: i} }

func own(i int) api.Ref { return api.Ref{Index: 16 + i} }

func of(m, i int) api.Ref { return api.Ref{Module: m, Index: 16 + i} }

func pointer(r api.Ref) api.FaceType { return api.FaceType{Form: api.FormPointer, Base: r} }

func record(size int, fields ...api.FaceField) api.FaceType {
	return api.FaceType{Form: api.FormRecord, Size: size, Fields: fields}
}

func variable(name string, r api.Ref) api.FaceObject {
	return api.FaceObject{Class: api.ClassVar, Name: name, Base: r}
}

func sample() api.Face {
	return api.Face{Name: "M", Imports: []api.Import{{Name: "A", Key: 1}, {Name: "B", Key: 2}, {Name: "C", Key: 0xfedcba98}},
		Types:   []api.FaceType{pointer(own(3)), {Form: api.FormArray, Length: 5, Size: 20, Base: of(3, 1)}, {Form: api.FormOpen, Base: basic(3)}, record(12, api.FaceField{Name: "n", Base: own(0)}, api.FaceField{Name: "c", Offset: 8, Base: of(1, 7)}), pointer(of(2, 0))},
		Objects: []api.FaceObject{{Class: api.ClassConst, Name: "k", Base: basic(1), Value: 1<<32 - 5}, {Class: api.ClassType, Name: "T", Base: own(3)}, {Class: api.ClassVar, Name: "v", Base: own(1), Value: 8}, {Class: api.ClassProc, Name: "P", Value: 2, Params: []api.FaceParam{{Var: true, Base: own(2)}, {Base: of(3, 1)}}}, {Class: api.ClassProc, Name: "Q", Base: basic(2), Value: 1}}}
}

// P20.2, P20.3
func TestOrder(t *testing.T) {
	f := sample()
	o, e := Order(f)
	want := api.Face{Name: "M", Imports: []api.Import{{Name: "A", Key: 1}, {Name: "C", Key: 0xfedcba98}},
		Types:   []api.FaceType{record(12, api.FaceField{Name: "n", Base: own(1)}, api.FaceField{Name: "c", Offset: 8, Base: of(1, 7)}), pointer(own(0)), {Form: api.FormArray, Length: 5, Size: 20, Base: of(2, 1)}, {Form: api.FormOpen, Base: basic(3)}},
		Objects: []api.FaceObject{{Class: api.ClassConst, Name: "k", Base: basic(1), Value: 1<<32 - 5}, {Class: api.ClassType, Name: "T", Base: own(0)}, {Class: api.ClassVar, Name: "v", Base: own(2), Value: 8}, {Class: api.ClassProc, Name: "P", Value: 2, Params: []api.FaceParam{{Var: true, Base: own(3)}, {Base: of(2, 1)}}}, {Class: api.ClassProc, Name: "Q", Base: basic(2), Value: 1}}}
	if e != api.OK || !symfile.Same(o, want) || !symfile.Same(f, sample()) || !Shows(f, o) || !Shows(o, f) {
		t.Error(o, e)
	}
	if p, e := Order(o); e != api.OK || !symfile.Same(p, o) {
		t.Error(p, e)
	}
	f.Name = ""
	if o, e := Order(f); e != api.ErrArg || o.Objects != nil {
		t.Error(o, e)
	}
	if l, e := Lines(f); l != nil || e != api.ErrArg {
		t.Error(l, e)
	}
}

// P20.2
func TestLines(t *testing.T) {
	l, e := Lines(sample())
	want := []string{"IMPORT A 00000001", "IMPORT B 00000002", "IMPORT C fedcba98", "TYPE 16 POINTER 19", "TYPE 17 ARRAY 5 3.17", "TYPE 18 OPEN 3", "TYPE 19 RECORD 12 n 0 16 c 8 1.23", "TYPE 20 POINTER 2.16", "CONST k 1 -5", "TYPE T 19", "VAR v 17 8", "PROCEDURE P 0 2 VAR 18 IN 3.17", "PROCEDURE Q 2 1"}
	if !slices.Equal(l, want) || e != api.OK {
		t.Error(l, e)
	}
	if l, e := Lines(api.Face{Name: "M", Types: []api.FaceType{record(4)}}); !slices.Equal(l, []string{"TYPE 16 RECORD 4"}) || e != api.OK {
		t.Error(l, e)
	}
	f := sample()
	if o, ok := Find(f, "P"); !ok || o.Value != 2 {
		t.Error(o)
	} else if o.Params[0].Var = false; !f.Objects[3].Params[0].Var {
		t.Error("shared")
	}
	if o, ok := Find(f, "x"); ok || o.Name != "" {
		t.Error(o)
	}
	f.Objects = append(f.Objects, variable("Q", basic(1)))
	if o, ok := Find(f, "Q"); !ok || o.Class != api.ClassProc {
		t.Error(o)
	}
}

// P20.1, P20.3
func TestShows(t *testing.T) {
	for n, change := range []func(*api.Face){
		func(f *api.Face) { f.Name = "N" }, func(f *api.Face) { f.Objects = f.Objects[1:] }, func(f *api.Face) { f.Objects = append(f.Objects, variable("x", basic(1))) }, func(f *api.Face) { f.Objects[0].Name = "x" }, func(f *api.Face) { f.Objects[0].Value++ }, func(f *api.Face) { f.Objects[0].Base = basic(5) },
		func(f *api.Face) { f.Objects[2].Value = 4 }, func(f *api.Face) { f.Objects[2].Base = basic(1) }, func(f *api.Face) { f.Objects[3].Params[0].Var = false }, func(f *api.Face) { f.Objects[3].Params = f.Objects[3].Params[1:] }, func(f *api.Face) { f.Objects[3].Base = basic(1) }, func(f *api.Face) { f.Objects[3].Params[1].Base = of(3, 2) },
		func(f *api.Face) { f.Imports[2].Key++ }, func(f *api.Face) { f.Imports[2].Name = "D" }, func(f *api.Face) { f.Types[1].Length++ }, func(f *api.Face) { f.Types[1].Size++ }, func(f *api.Face) { f.Types[3].Fields[0].Name = "m" }, func(f *api.Face) { f.Types[3].Fields[1].Offset = 4 }, func(f *api.Face) { f.Types[3].Fields = f.Types[3].Fields[1:] },
		func(f *api.Face) { f.Types[3].Fields[0].Base = basic(1) }, func(f *api.Face) { f.Types[0] = pointer(own(4)) }, func(f *api.Face) { f.Types[2].Base = basic(4) }, func(f *api.Face) { f.Objects[1].Class = api.ClassVar }, func(f *api.Face) { f.Objects[1].Base = own(0) },
	} {
		f := sample()
		if !Shows(f, sample()) {
			t.Error("not the same")
		}
		if change(&f); !symfile.May(f) || Shows(f, sample()) || Shows(sample(), f) {
			t.Error(n)
		}
	}
	f := sample()
	slices.Reverse(f.Objects)
	f.Types = append(f.Types, pointer(basic(1)))
	f.Imports = append(f.Imports, api.Import{Name: "X"})
	if !Shows(f, sample()) || !Shows(sample(), f) {
		t.Error("order, and what nothing refers to, mean nothing")
	}
	f.Name = ""
	if Shows(f, f) {
		t.Error("may not be")
	}
}

// P20.1: pointers that lead back
func TestMeans(t *testing.T) {
	field := func(name string, r api.Ref) api.FaceField { return api.FaceField{Name: name, Base: r} }
	one := api.Face{Name: "A", Types: []api.FaceType{pointer(own(1)), record(4, field("n", own(0)))}}
	two := api.Face{Name: "B", Imports: []api.Import{{Name: "C", Key: 1}}, Types: []api.FaceType{pointer(own(1)), record(4, field("n", own(2))), pointer(own(3)), record(4, field("n", own(0)))}}
	odd := api.Face{Name: "B", Types: []api.FaceType{pointer(own(1)), record(4, field("n", own(2))), pointer(own(3)), record(4, field("m", own(0)))}}
	tail := api.Face{Name: "T", Types: []api.FaceType{pointer(own(1)), record(4, field("n", own(2))), pointer(own(3)), record(4, field("n", own(2)))}}
	for n, x := range []struct {
		a    api.Face
		r    api.Ref
		b    api.Face
		s    api.Ref
		want bool
	}{
		{one, own(0), two, own(0), true}, {one, own(0), two, own(2), true}, {one, own(0), tail, own(0), true}, {tail, own(0), tail, own(0), true}, {tail, own(0), tail, own(2), true}, {tail, own(1), tail, own(2), false}, {one, own(1), two, own(3), true}, {one, own(0), two, own(1), false}, {one, own(0), odd, own(0), false}, {two, own(0), two, own(2), true}, {odd, own(0), odd, own(2), false}, {odd, own(0), odd, own(0), true},
		{one, basic(1), two, basic(1), true}, {one, basic(6), two, basic(6), true}, {one, basic(1), two, basic(4), false}, {one, basic(0), two, basic(0), false}, {one, basic(7), two, basic(7), false}, {one, own(2), two, own(2), false}, {two, own(4), two, own(4), false}, {one, basic(1), two, own(1), false},
		{two, of(1, 0), two, of(1, 0), true}, {two, of(1, 0), two, of(1, 1), false}, {two, of(1, 0), two, own(0), false}, {two, of(2, 0), two, of(2, 0), false}, {two, api.Ref{Module: 1, Index: 5}, two, api.Ref{Module: 1, Index: 5}, false}, {two, of(-1, 0), two, of(-1, 0), false}, {api.Face{}, basic(1), api.Face{}, basic(1), false},
	} {
		if Means(x.a, x.r, x.b, x.s) != x.want || Means(x.b, x.s, x.a, x.r) != x.want {
			t.Error(n)
		}
	}
}
