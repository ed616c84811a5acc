package link

import (
	"slices"
	"strings"
	"testing"

	"selfsame/api"
	"selfsame/object"
	"selfsame/store"
)

func module(name string, imports ...string) api.Object {
	o := api.Object{Name: name, Key: keyOf(name), Code: []uint32{0xc700000f}, Entries: []int{0}}
	for _, i := range imports {
		o.Imports = append(o.Imports, api.Import{Name: i, Key: keyOf(i)})
	}
	return o
}

func keyOf(name string) uint32 { return uint32(name[0]) * 1000 }

func files(t *testing.T, l ...api.Object) *store.Store {
	t.Helper()
	s, _ := store.New(1 << 20)
	for _, o := range l {
		b, e := object.Bytes(o)
		if e != api.OK || s.Put(object.File(o.Name), b) != api.OK {
			t.Fatal(o.Name, e)
		}
	}
	return s
}

// P9.1, P9.3
func TestOrder(t *testing.T) {
	a, d := module("A", "B", "C"), module("D", "B")
	d.Imports[0].Key++
	s := files(t, a, module("B", "C"), module("C"), d, module("E", "F"), module("F", "E"), module("G", "nothing"), module("H", "D"), module("I", "X"), module("K", "B", "B1", "C"), module("B1", "C"))
	s.Put("X.o", []byte("O1"))
	b, _ := s.Get("A.o")
	s.Put("Y.o", b)
	before := s.Copy()
	for _, x := range []struct {
		name, want string
		e          api.Errno
	}{{"A", "C B A", 0}, {"C", "C", 0}, {"K", "C B B1 K", 0}, {"D", "", api.ErrKey}, {"E", "", api.ErrCycle}, {"G", "", api.ErrNone}, {"H", "", api.ErrKey}, {"X", "", api.ErrBytes}, {"I", "", api.ErrBytes}, {"Y", "", api.ErrBytes}, {"Z", "", api.ErrNone}, {"", "", api.ErrArg}, {"A.o", "", api.ErrArg}, {strings.Repeat("x", 16), "", api.ErrArg}} {
		l, e := Order(s, x.name)
		if strings.Join(l, " ") != x.want || e != x.e {
			t.Error(x, l, e)
		}
		if i, e := Link(s, x.name); e != x.e || (e == api.OK) != (len(i.Words) > 0) || len(i.Modules) != len(l) {
			t.Error(x, i, e)
		}
	}
	if !s.Same(before) {
		t.Error("linking changed files")
	}
	for _, s := range []*store.Store{nil, {}} {
		_, e := Order(s, "")
		_, f := Link(s, "")
		_, g := Load(s, "")
		if e != api.ErrNil || f != api.ErrNil || g != api.ErrNil {
			t.Error(e, f, g)
		}
	}
	if o, e := Load(s, "A"); e != api.OK || !object.Same(o, a) {
		t.Error(o, e)
	}
	for name, want := range map[string]api.Errno{"": api.ErrArg, "Z": api.ErrNone, "X": api.ErrBytes, "Y": api.ErrBytes, "D": api.OK} {
		if _, e := Load(s, name); e != want {
			t.Error(name, e)
		}
	}
}

func big() []api.Object {
	a := module("A")
	a.Code, a.Entries, a.Vars, a.Text = []uint32{1, 2, 3, 4}, []int{1, 0, 3}, 8, []byte("abcd")
	b := module("B", "A")
	b.Code = []uint32{0x61ffffff, 0x41ffffff, 0xf7ffffff, 0x61abffff, 0x41abffff, 0xf7000000}
	b.Entries, b.Vars = []int{2}, 4
	b.Fixups = []api.Fixup{{At: 0}, {At: 2, Module: 1, Entry: 1}, {At: 3, Module: 1}, {At: 5, Module: 1, Entry: 2}}
	return []api.Object{a, b}
}

// P9.2
func TestLay(t *testing.T) {
	i, e := Lay(big()...)
	want := api.Image{Words: []uint32{0xf7000004, 0xf7000008, 0x40000000, 0xd700010c,
		1, 2, 3, 4, 0x61ff0000, 0x41ff0044, 0xf7fffff9, 0x61ab0000, 0x41ab0038, 0xf7fffff9,
		0, 0, 0x64636261, 0},
		Modules: []api.Placed{{Name: "A", Key: keyOf("A"), Code: 4, Data: 56, Entries: []int{5, 4, 7}}, {Name: "B", Key: keyOf("B"), Code: 8, Data: 68, Entries: []int{10}}}}
	if !Same(i, want) || e != api.OK {
		t.Errorf("%x %v", i, e)
	}
	s := files(t, big()...)
	if j, e := Link(s, "B"); !Same(i, j) || e != api.OK {
		t.Error(j, e)
	}
	if j, e := Lay(); e != api.OK || !slices.Equal(j.Words, []uint32{0x40000000, 0xd700010c}) {
		t.Error(j, e)
	}
	for n, change := range []func(l []api.Object) []api.Object{
		func(l []api.Object) []api.Object { l[0].Name = ""; return l },
		func(l []api.Object) []api.Object { return append(l, l[0]) },
		func(l []api.Object) []api.Object { return l[1:] },
		func(l []api.Object) []api.Object { l[0], l[1] = l[1], l[0]; return l },
		func(l []api.Object) []api.Object { l[0].Key++; return l },
	} {
		if i, e := Lay(change(big())...); e != api.ErrArg || i.Words != nil || i.Modules != nil {
			t.Error(n, e)
		}
	}
	l := big()
	l[1].Fixups[3].Entry = 3
	if i, e := Lay(l...); e != api.ErrBytes || i.Words != nil {
		t.Error(e)
	}
	if _, e := Link(files(t, l...), "B"); e != api.ErrBytes {
		t.Error(e)
	}
	for n, change := range []func(*api.Image){func(i *api.Image) { i.Words[3]++ }, func(i *api.Image) { i.Modules[0].Data++ }, func(i *api.Image) { i.Modules[0].Code++ }, func(i *api.Image) { i.Modules[0].Entries[1]++ }, func(i *api.Image) { i.Modules[1].Name = "x" }, func(i *api.Image) { i.Modules[1].Key++ }, func(i *api.Image) { i.Modules = i.Modules[:1] }} {
		j, _ := Lay(big()...)
		if change(&j); Same(i, j) || Same(j, i) {
			t.Error(n)
		}
	}
}

// P9.2: too great
func TestGreat(t *testing.T) {
	var l []api.Object
	for n := range 64 {
		o := module("M" + string(rune('A'+n%26)) + string(rune('A'+n/26)))
		o.Vars = api.MaxData
		l = append(l, o)
	}
	if i, e := Lay(l...); e != api.ErrMemory || i.Words != nil {
		t.Error(e)
	}
	if i, e := Lay(l[:63]...); e != api.OK || len(i.Words) != 63+2+63+63*65536 {
		t.Error(e, len(i.Words))
	}
	bad := module("Z", "Y")
	bad.Code = []uint32{0}
	bad.Fixups = []api.Fixup{{At: 0, Module: 1, Entry: 1}}
	if _, e := Lay(append(append([]api.Object{module("Y")}, l...), bad)...); e != api.ErrBytes {
		t.Error(e)
	}
}
