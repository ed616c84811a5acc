package types

import (
	"slices"
	"testing"

	"selfsame/api"
)

func same(a, b api.Type) bool {
	return a.Form == b.Form && a.Base == b.Base && a.Length == b.Length && a.Size == b.Size && a.Module == b.Module && a.Ref == b.Ref && slices.Equal(a.Fields, b.Fields)
}

// P12.1
func TestMake(t *testing.T) {
	x := New()
	sizes := []int{0, 4, 1, 1, 1, 4, 4, 0}
	for n := range sizes {
		if got, ok := x.Get(n); x.Size(n) != sizes[n] || ok != (n > 0 && n < 7) || !same(got, api.Type{Size: sizes[n]}) {
			t.Error(n, got, ok)
		}
	}
	for i, y := range []struct {
		length, base, n, code, size int
	}{{5, 3, 7, 0, 8}, {4, 3, 8, 0, 4}, {65535, 1, 9, 0, 262140}, {65535, 3, 10, 0, 65536}, {3, 7, 11, 0, 24}, {0, 1, 0, 30, 0}, {-1, 1, 0, 30, 0}, {65536, 3, 0, 30, 0}, {65535, 7, 0, 30, 0}, {32769, 7, 0, 30, 0}, {32768, 7, 12, 0, 262144}, {1, 0, 0, 30, 0}, {1, 13, 0, 30, 0}, {1, -1, 0, 30, 0}} {
		n, code := x.Array(y.length, y.base)
		if n != y.n || code != y.code || n > 0 && x.Size(n) != y.size {
			t.Error(i, n, code, x.Size(n))
		}
	}
	if got, _ := x.Get(7); !same(got, api.Type{Form: api.FormArray, Length: 5, Base: 3, Size: 8}) {
		t.Error(got)
	}
	if n, code := x.Open(7); n != 13 || code != 0 || x.Size(13) != 8 {
		t.Error(n, code)
	}
	if n, code := x.Open(0); n != 0 || code != 30 {
		t.Error(n, code)
	}
	if n, code := x.Pointer(0); n != 14 || code != 0 || x.Size(14) != 4 {
		t.Error(n, code)
	}
	if n, code := x.Pointer(15); n != 0 || code != 30 {
		t.Error(n, code)
	}
	if n, code := x.Record(); n != 15 || code != 0 || x.Size(15) != 0 {
		t.Error(n, code)
	}
	if n, code := x.Array(2, 15); n != 0 || code != 30 {
		t.Error("of size 0", n, code)
	}
	x.SetBase(14, 15)
	x.SetBase(15, 1)
	x.SetBase(14, 99)
	if got, _ := x.Get(14); !same(got, api.Type{Form: api.FormPointer, Base: 15, Size: 4}) {
		t.Error(got)
	}
	x.SetBase(14, 0)
	if got, _ := x.Get(14); got.Base != 0 {
		t.Error(got)
	}
	for x.Len() < api.MaxTypes {
		x.Pointer(0)
	}
	n, a := x.Array(1, 1)
	m, b := x.Open(1)
	k, c := x.Record()
	j, d := x.Pointer(1)
	i, e := x.Import(api.Type{})
	if n+m+k+j+i != 0 || a != 64 || b != 64 || c != 64 || d != 64 || e != 64 {
		t.Error(a, b, c, d, e)
	}
	if _, code := x.Array(0, 1); code != 30 {
		t.Error(code)
	}
}

// P12.2
func TestRecord(t *testing.T) {
	x := New()
	r, _ := x.Record()
	if x.Add(r, 1, 3) != 0 || x.Add(r, 2, 1) != 0 || x.Add(r, 3, 3) != 0 || x.Add(r, 4, 2) != 0 || x.Size(r) != 10 || x.End(r) != 0 {
		t.Error(x.Size(r))
	}
	want := api.Type{Form: api.FormRecord, Size: 12, Fields: []api.Field{{Name: 1, Type: 3}, {Name: 2, Offset: 4, Type: 1}, {Name: 3, Offset: 8, Type: 3}, {Name: 4, Offset: 9, Type: 2}}}
	if got, _ := x.Get(r); !same(got, want) {
		t.Error(got)
	}
	if f, ok := x.Field(r, 2); f != want.Fields[1] || !ok {
		t.Error(f, ok)
	}
	if f, ok := x.Field(r, 9); f != (api.Field{}) || ok {
		t.Error(f, ok)
	}
	if x.Add(r, 2, 1) != 12 || x.Add(r, 2, 0) != 30 || x.Add(1, 2, 1) != 30 || x.Add(0, 2, 1) != 30 || x.Add(99, 2, 1) != 30 || x.End(1) != 30 || x.End(0) != 30 {
		t.Error("what may not be")
	}
	if x.Add(r, 5, 3) != 0 || x.Size(r) != 13 {
		t.Error("behind End", x.Size(r))
	}
	two, _ := x.Import(api.Type{Size: 2})
	odd, _ := x.Record()
	if x.Add(odd, 1, 3) != 0 || x.Add(odd, 2, two) != 0 || x.Size(odd) != 6 || x.Add(odd, 3, two) != 0 || x.Size(odd) != 10 {
		t.Error("a type of size 2", x.Size(odd))
	}
	e, _ := x.Record()
	if x.Add(r, 6, e) != 0 || x.Size(r) != 13 {
		t.Error("a type of size 0", x.Size(r))
	}
	if x.End(e) != 0 || x.Size(e) != 4 {
		t.Error(x.Size(e))
	}
	a, _ := x.Array(65535, 1)
	g, _ := x.Record()
	if x.Add(g, 1, a) != 0 || x.Add(g, 2, 1) != 0 || x.Size(g) != api.MaxSize || x.Add(g, 3, 3) != 30 || x.Add(g, 1, 1) != 12 || x.End(g) != 0 {
		t.Error(x.Size(g))
	}
}

// P12.2, P12.3: fields
func TestFields(t *testing.T) {
	x := New()
	for range 20 {
		r, _ := x.Record()
		for i := range 100 {
			if x.Len() == 26 && i == 90 {
				break
			}
			if code := x.Add(r, i, 1); code != 0 {
				t.Fatal(code)
			}
		}
		if x.Len() < 26 && x.Add(r, 100, 1) != 73 {
			t.Error("101 fields")
		}
	}
	ten := api.Type{Form: api.FormRecord, Fields: make([]api.Field, 11)}
	if n, code := x.Import(ten); n != 0 || code != 73 {
		t.Error(n, code)
	}
	ten.Fields = ten.Fields[:10]
	if n, code := x.Import(ten); n != 27 || code != 0 {
		t.Error(n, code)
	}
	if code := x.Add(26, 99, 1); code != 73 {
		t.Error(code)
	}
	if code := x.Add(26, 5, 1); code != 12 {
		t.Error(code)
	}
	x = New()
	if n, code := x.Import(api.Type{Fields: make([]api.Field, 500)}); n != 7 || code != 0 {
		t.Error(n, code)
	}
}

// P12.3, P12.4
func TestImport(t *testing.T) {
	x := New()
	in := api.Type{Form: api.FormRecord, Base: 99, Length: 8, Size: 1 << 18, Fields: []api.Field{{Name: 3, Offset: 1 << 18, Type: 77}}, Module: 2, Ref: 5}
	n, code := x.Import(in)
	if got, ok := x.Get(n); n != 7 || code != 0 || !same(got, in) || !ok {
		t.Error(got, ok)
	}
	in.Fields[0].Name = 9
	got, _ := x.Get(7)
	got.Fields[0].Name = 8
	if f, ok := x.Field(7, 3); !ok || f.Offset != 1<<18 {
		t.Error(f, ok)
	}
	x.SetRef(7, 4, 6)
	x.SetRef(9, 4, 6)
	if got, _ := x.Get(7); got.Module != 4 || got.Ref != 6 {
		t.Error(got)
	}
	for _, in := range []api.Type{{Size: -1}, {Size: 1<<18 + 1}, {Fields: []api.Field{{Offset: -1}}}, {Fields: []api.Field{{Offset: 1<<18 + 1}}}, {Size: -1, Fields: make([]api.Field, 3000)}} {
		if n, code := x.Import(in); n != 0 || code != 30 {
			t.Error(in.Size, n, code)
		}
	}
	if x.Len() != 7 {
		t.Error(x.Len())
	}
}

// P12.4
func TestLooks(t *testing.T) {
	x := New()
	p, _ := x.Pointer(0)
	q, _ := x.Pointer(0)
	a, _ := x.Array(3, 1)
	for n := -1; n < 12; n++ {
		if x.Scalar(n) != (n >= 1 && n <= 6 || n == p || n == q) || x.Integer(n) != (n == 1 || n == 4) {
			t.Error(n)
		}
		for m := -1; m < 12; m++ {
			want := n == m && n >= 1 && n <= a || n == 1 && m == 4 || n == 4 && m == 1 || m == 6 && (n == p || n == q)
			if x.Fits(n, m) != want {
				t.Error("Fits", n, m)
			}
		}
	}
	for _, x := range []*Table{nil, {}} {
		n, a := x.Array(1, 1)
		m, b := x.Open(1)
		k, c := x.Record()
		j, d := x.Pointer(0)
		i, e := x.Import(api.Type{})
		if n+m+k+j+i != 0 || a != 64 || b != 64 || c != 64 || d != 64 || e != 64 || x.Add(7, 1, 1) != 64 || x.End(7) != 64 {
			t.Error(a, b, c, d, e)
		}
		x.SetBase(1, 1)
		x.SetRef(1, 1, 1)
		_, ok := x.Get(1)
		_, found := x.Field(7, 1)
		if ok || found || x.Size(1) != 0 || x.Scalar(1) || x.Integer(1) || x.Fits(1, 1) || x.Len() != 0 {
			t.Error("nil")
		}
	}
}
