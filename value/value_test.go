package value

import (
	"fmt"
	"strings"
	"testing"

	"selfsame/api"
)

func basic(t *testing.T, n int) *Type {
	t.Helper()
	x, e := Basic(n)
	if e != api.OK || x.Kind() != n {
		t.Fatal(n, e)
	}
	return x
}

func record(t *testing.T, names string, bases ...*Type) *Type {
	t.Helper()
	x, e := Record(strings.Fields(names), bases)
	if e != api.OK {
		t.Fatal(names, e)
	}
	return x
}

// P18.1, P18.2
func TestTypes(t *testing.T) {
	for n, size := range []int{0, 4, 1, 1, 1, 4, 0, 0, 0, 0} {
		x, e := Basic(n)
		if (e == api.OK) != (size > 0) || e != api.OK && (x != nil || e != api.ErrArg) || x.Size() != size || x.Scalar() != (size > 0) || x.Len() != 0 || x.Base() != nil {
			t.Error(n, e)
		}
	}
	if _, e := Basic(-1); e != api.ErrArg {
		t.Error(e)
	}
	i, c, y := basic(t, 1), basic(t, 3), basic(t, 4)
	for _, x := range []struct {
		n    int
		base *Type
		size int
		e    api.Errno
	}{{5, c, 8, 0}, {1, c, 4, 0}, {4, c, 4, 0}, {65535, i, 262140, 0}, {65535, c, 65536, 0}, {0, c, 0, api.ErrArg}, {-1, c, 0, api.ErrArg}, {65536, c, 0, api.ErrArg}, {0, nil, 0, api.ErrNil}, {1, &Type{}, 0, api.ErrNil}} {
		a, e := Array(x.n, x.base)
		if e != x.e || (a == nil) != (e != api.OK) || a.Size() != x.size || e == api.OK && (a.Len() != x.n || a.Base() != x.base || a.Kind() != api.KindArray || a.Scalar()) {
			t.Error(x, e)
		}
	}
	a, _ := Array(65535, i)
	if _, e := Array(2, a); e != api.ErrLong {
		t.Error(e)
	}
	if _, e := Record([]string{"a", "b", "c"}, []*Type{a, i, c}); e != api.ErrLong {
		t.Error(e)
	}
	if r, e := Record([]string{"a", "b"}, []*Type{a, i}); e != api.OK || r.Size() != api.MaxSize {
		t.Error(e)
	}
	r := record(t, "a b c", c, i, y)
	told := ""
	for name, f := range r.Fields() {
		at, e := r.Offset(name)
		told += fmt.Sprint(name, f.Kind(), at, e == api.OK, " ")
	}
	if told != "a3 0 true b1 4 true c4 8 true " || r.Size() != 12 || r.Kind() != api.KindRecord || r.Scalar() || record(t, "").Size() != 4 || record(t, "a b", c, y).Size() != 4 {
		t.Error(told, r.Size())
	}
	for name := range r.Fields() {
		if name != "a" {
			t.Error(name)
		}
		break
	}
	for _, x := range []struct {
		names string
		bases []*Type
		e     api.Errno
	}{{"a", nil, api.ErrArg}, {"", []*Type{i}, api.ErrArg}, {"a a", []*Type{i, c}, api.ErrArg}, {"9", []*Type{i}, api.ErrArg}, {"END", []*Type{i}, api.ErrArg}, {"abcdefghijklmnop", []*Type{i}, api.ErrArg}, {"a_b", []*Type{i}, api.ErrArg}, {"9 8", []*Type{nil}, api.ErrNil}, {"a", []*Type{{}}, api.ErrNil}, {"a a", []*Type{a, a}, api.ErrArg}} {
		if r, e := Record(strings.Fields(x.names), x.bases); r != nil || e != x.e {
			t.Error(x.names, e)
		}
	}
	if at, e := r.Offset("d"); at != 0 || e != api.ErrNone {
		t.Error(e)
	}
	v, _ := New(record(t, "a b c d", c, c, i, c))
	for _, name := range []string{"a", "b", "c", "d"} {
		f, _ := v.Field(name)
		f.Set(Value{Word: uint32(name[0])})
	}
	if string(v.Bytes()) != "ab\x00\x00c\x00\x00\x00d\x00\x00\x00" {
		t.Errorf("%q", v.Bytes())
	}
	if _, e := i.Offset("a"); e != api.ErrState {
		t.Error(e)
	}
}

// P18.1, P18.2, P18.4
func TestPointers(t *testing.T) {
	p, i := Pointer(), basic(t, 1)
	r := record(t, "n", p)
	if p.Kind() != api.KindPointer || p.Base() != nil || p.Size() != 4 || !p.Scalar() {
		t.Error(p)
	}
	if p.Point(nil) != api.ErrNil || (*Type)(nil).Point(r) != api.ErrNil || p.Point(&Type{}) != api.ErrNil || p.Point(i) != api.ErrArg || p.Point(p) != api.ErrArg || r.Point(r) != api.ErrArg || p.Base() != nil || p.Point(r) != api.OK || p.Base() != r || p.Point(r) != api.ErrState || p.Point(i) != api.ErrArg {
		t.Error("Point")
	}
	j := basic(t, 1)
	a, _ := Array(2, i)
	b, _ := Array(2, i)
	for n, x := range []struct {
		a, b *Type
		want bool
	}{{i, j, true}, {i, basic(t, 4), false}, {a, a, true}, {a, b, false}, {p, Pointer(), false}, {p, p, true}, {nil, nil, true}, {nil, &Type{}, true}, {nil, i, false}, {i, nil, false}, {r, r, true}, {record(t, ""), record(t, ""), false}} {
		if Same(x.a, x.b) != x.want {
			t.Error(n)
		}
	}
}

// P18.3, P18.4, P18.5
func TestVars(t *testing.T) {
	for n, want := range []uint32{0, 0xfffffefe, 1, 0xfe, 0xfe, 0xfffffefe} {
		if n == 0 {
			continue
		}
		x := basic(t, n)
		v, e := New(x)
		if got, g := v.Get(); e != api.OK || g != api.OK || got != (Value{}) || v.Type() != x {
			t.Error(n, got)
		}
		if e := v.Set(Value{Word: 0xfffffefe, To: v}); e != api.OK {
			t.Error(e)
		}
		if got, _ := v.Get(); got != (Value{Word: want}) || Fit(x, 0xfffffefe) != want || Fit(x, 0) != 0 || len(v.Bytes()) != x.Size() || v.Bytes()[0] != byte(want) {
			t.Error(n, got, v.Bytes())
		}
	}
	i, c := basic(t, 1), basic(t, 3)
	p := Pointer()
	a, _ := Array(3, c)
	r := record(t, "c p a i", c, p, a, i)
	p.Point(r)
	m, _ := Array(2, r)
	v, _ := New(m)
	e0, _ := v.Elem(0)
	e1, _ := v.Elem(1)
	again, _ := v.Elem(1)
	f, _ := e1.Field("p")
	f.Set(Value{Word: 9, To: e0})
	if got, _ := f.Get(); got != (Value{To: e0}) || again != e1 || e0 == e1 || e1.Type() != r {
		t.Error(got)
	}
	x, _ := e1.Field("a")
	x1, _ := x.Elem(1)
	x1.Set(Value{Word: 0x1ff})
	g, _ := e0.Field("i")
	g.Set(Value{Word: 0x01020304})
	if got := v.Bytes(); string(got) != "\x00\x00\x00\x00\x00\x00\x00\x00\x00\x00\x00\x00\x04\x03\x02\x01"+"\x00\x00\x00\x00\x01\x00\x00\x00\x00\xff\x00\x00\x00\x00\x00\x00" {
		t.Errorf("%q", got)
	}
	f.Set(Value{})
	if got := e1.Bytes(); got[4] != 0 || Fit(p, 5) != 0 || Fit(nil, 5) != 0 || Fit(a, 5) != 0 {
		t.Error(got)
	}
	for n, e := range []api.Errno{get(v), set(v), elem(e1, 0), elem(g, 0), field2(v, "a"), field2(g, "a")} {
		if e != api.ErrState {
			t.Error(n, e)
		}
	}
	for n, e := range []api.Errno{elem(v, -1), elem(v, 2), elem(v, 1<<40)} {
		if e != api.ErrArg {
			t.Error(n, e)
		}
	}
	if e := field2(e1, "z"); e != api.ErrNone {
		t.Error(e)
	}
	for _, v := range []*Var{nil, {}} {
		if get(v) != api.ErrNil || set(v) != api.ErrNil || elem(v, -1) != api.ErrNil || field2(v, "") != api.ErrNil || v.Type() != nil || v.Bytes() != nil {
			t.Error("nil")
		}
	}
	for _, x := range []*Type{nil, {}} {
		_, e := New(x)
		at, o := x.Offset("a")
		if e != api.ErrNil || at != 0 || o != api.ErrNil || x.Kind() != 0 || x.Len() != 0 || x.Base() != nil || x.Size() != 0 || x.Scalar() {
			t.Error(e, o)
		}
		for range x.Fields() {
			t.Error("a field")
		}
	}
}

func get(v *Var) api.Errno {
	_, e := v.Get()
	return e
}

func set(v *Var) api.Errno { return v.Set(Value{Word: 1}) }

func elem(v *Var, i int) api.Errno {
	_, e := v.Elem(i)
	return e
}

func field2(v *Var, name string) api.Errno {
	_, e := v.Field(name)
	return e
}
