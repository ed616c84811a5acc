package symfile

import (
	"fmt"
	"strings"
	"testing"

	"selfsame/api"
	"selfsame/key"
	"selfsame/word"
)

func basic(i int) api.Ref { return api.Ref{Index: i} }

func own(i int) api.Ref { return api.Ref{Index: 16 + i} }

func sample() api.Face {
	return api.Face{Name: "M", Imports: []api.Import{{Name: "A", Key: 7}, {Name: "B", Key: 1 << 31}},
		Types: []api.FaceType{
			{Form: api.FormArray, Length: 3, Size: 12, Base: api.Ref{Module: 1, Index: 16}},
			{Form: api.FormRecord, Size: 8, Fields: []api.FaceField{{Name: "a", Base: basic(3)}, {Name: "b", Offset: 4, Base: own(2)}}},
			{Form: api.FormPointer, Base: own(1)},
			{Form: api.FormOpen, Base: basic(3)},
		},
		Objects: []api.FaceObject{
			{Class: api.ClassConst, Name: "c", Base: basic(1), Value: 1<<32 - 5},
			{Class: api.ClassConst, Name: "d", Base: basic(2), Value: 1},
			{Class: api.ClassConst, Name: "e", Base: basic(3), Value: 255},
			{Class: api.ClassConst, Name: "f", Base: basic(5), Value: 1 << 31},
			{Class: api.ClassType, Name: "T", Base: own(0)},
			{Class: api.ClassVar, Name: "v", Base: basic(6), Value: 1 << 18},
			{Class: api.ClassProc, Name: "P", Value: 200, Params: []api.FaceParam{{Var: true, Base: own(3)}, {Base: api.Ref{Module: 2, Index: 255}}}},
			{Class: api.ClassProc, Name: "Q", Base: basic(4), Value: 1},
		}}
}

// P8.1, P8.2
func TestMay(t *testing.T) {
	for n, change := range []func(*api.Face){
		func(f *api.Face) {},
		func(f *api.Face) { f.Imports = imports(12) },
		func(f *api.Face) { f.Types[0].Length, f.Types[0].Size = 65535, 1<<18 },
		func(f *api.Face) { f.Types[0].Length, f.Types[0].Size = 1, 1 },
		func(f *api.Face) { f.Types[1].Fields = fields(100) },
		func(f *api.Face) { f.Types[1].Fields, f.Types[1].Size = nil, 1 },
		func(f *api.Face) { f.Types[1].Fields[0].Offset = 1 << 18 },
		func(f *api.Face) { f.Types = append(f.Types, make200(196)...) },
		func(f *api.Face) { f.Objects[7].Params = make12(12) },
		func(f *api.Face) { f.Objects = objects(900) },
	} {
		f := sample()
		change(&f)
		b, k, e := Bytes(f)
		if !May(f) || e != api.OK {
			t.Error(n, e)
			continue
		}
		if g, l, e := Of(b); !Same(f, g) || l != k || e != api.OK {
			t.Error(n, g, e)
		}
	}
	for n, change := range []func(*api.Face){
		func(f *api.Face) { f.Name = "" },
		func(f *api.Face) { f.Name = strings.Repeat("x", 16) },
		func(f *api.Face) { f.Imports[0].Name = "M" },
		func(f *api.Face) { f.Imports[0].Name = "B" },
		func(f *api.Face) { f.Imports[0].Name = "1" },
		func(f *api.Face) { f.Imports = imports(13) },
		func(f *api.Face) { f.Types[0].Length = 0 },
		func(f *api.Face) { f.Types[0].Length = 65536 },
		func(f *api.Face) { f.Types[0].Size = 0 },
		func(f *api.Face) { f.Types[0].Size = 1<<18 + 1 },
		func(f *api.Face) { f.Types[0].Base = own(3) },
		func(f *api.Face) { f.Types[0].Base = own(4) },
		func(f *api.Face) { f.Types[0].Base = basic(0) },
		func(f *api.Face) { f.Types[0].Base = basic(7) },
		func(f *api.Face) { f.Types[0].Base = basic(15) },
		func(f *api.Face) { f.Types[0].Base = basic(-1) },
		func(f *api.Face) { f.Types[0].Base = api.Ref{Module: 3, Index: 16} },
		func(f *api.Face) { f.Types[0].Base = api.Ref{Module: 1, Index: 15} },
		func(f *api.Face) { f.Types[0].Base = api.Ref{Module: 1, Index: 256} },
		func(f *api.Face) { f.Types[0].Base = api.Ref{Module: -1, Index: 16} },
		func(f *api.Face) { f.Types[0].Fields = fields(1) },
		func(f *api.Face) { f.Types[0].Form = 0 },
		func(f *api.Face) { f.Types[0].Form = 5 },
		func(f *api.Face) { f.Types[1].Size = 0 },
		func(f *api.Face) { f.Types[1].Length = 1 },
		func(f *api.Face) { f.Types[1].Base = basic(1) },
		func(f *api.Face) { f.Types[1].Fields = fields(101) },
		func(f *api.Face) { f.Types[1].Fields[1].Name = "a" },
		func(f *api.Face) { f.Types[1].Fields[1].Name = "" },
		func(f *api.Face) { f.Types[1].Fields[1].Offset = -1 },
		func(f *api.Face) { f.Types[1].Fields[1].Offset = 1<<18 + 1 },
		func(f *api.Face) { f.Types[1].Fields[1].Base = own(3) },
		func(f *api.Face) { f.Types[2].Size = 4 },
		func(f *api.Face) { f.Types[2].Base = own(3) },
		func(f *api.Face) { f.Types[3].Length = 4 },
		func(f *api.Face) { f.Types[3].Base = own(3) },
		func(f *api.Face) { f.Types = append(f.Types, make200(197)...) },
		func(f *api.Face) { f.Objects[0].Base = basic(4) },
		func(f *api.Face) { f.Objects[0].Base = basic(6) },
		func(f *api.Face) { f.Objects[0].Base = own(0) },
		func(f *api.Face) { f.Objects[0].Base = api.Ref{Module: 1, Index: 1} },
		func(f *api.Face) { f.Objects[1].Value = 2 },
		func(f *api.Face) { f.Objects[2].Value = 256 },
		func(f *api.Face) { f.Objects[0].Name = "d" },
		func(f *api.Face) { f.Objects[0].Name = "d.e" },
		func(f *api.Face) { f.Objects[0].Params = make12(1) },
		func(f *api.Face) { f.Objects[4].Value = 1 },
		func(f *api.Face) { f.Objects[4].Base = own(3) },
		func(f *api.Face) { f.Objects[4].Base = api.Ref{} },
		func(f *api.Face) { f.Objects[5].Value = 1<<18 + 1 },
		func(f *api.Face) { f.Objects[5].Params = make12(1) },
		func(f *api.Face) { f.Objects[5].Base = own(3) },
		func(f *api.Face) { f.Objects[6].Value = 201 },
		func(f *api.Face) { f.Objects[6].Value = 0 },
		func(f *api.Face) { f.Objects[6].Value = 1 },
		func(f *api.Face) { f.Objects[6].Base = own(3) },
		func(f *api.Face) { f.Objects[7].Params = make12(13) },
		func(f *api.Face) { f.Objects[7].Params = []api.FaceParam{{Base: own(4)}} },
		func(f *api.Face) { f.Objects[0].Class = 0 },
		func(f *api.Face) { f.Objects[0].Class = 5 },
		func(f *api.Face) { f.Objects = objects(901) },
	} {
		f := sample()
		change(&f)
		if b, k, e := Bytes(f); May(f) || b != nil || k != 0 || e != api.ErrArg || Same(f, f) {
			t.Error(n, e)
		}
	}
}

func imports(n int) []api.Import {
	var l []api.Import
	for i := range n {
		l = append(l, api.Import{Name: fmt.Sprint("I", i)})
	}
	return l
}

func fields(n int) []api.FaceField {
	var l []api.FaceField
	for i := range n {
		l = append(l, api.FaceField{Name: fmt.Sprint("f", i), Base: basic(1)})
	}
	return l
}

func make200(n int) []api.FaceType {
	var l []api.FaceType
	for range n {
		l = append(l, api.FaceType{Form: api.FormPointer, Base: basic(1)})
	}
	return l
}

func make12(n int) []api.FaceParam {
	var l []api.FaceParam
	for range n {
		l = append(l, api.FaceParam{Base: basic(1)})
	}
	return l
}

func objects(n int) []api.FaceObject {
	var l []api.FaceObject
	for i := range n {
		l = append(l, api.FaceObject{Class: api.ClassVar, Name: fmt.Sprint("o", i), Base: basic(1)})
	}
	return l
}

// P8.2: the chapter's example, and all kinds
func TestBytes(t *testing.T) {
	rest := "\x01\x01A\x07\x00\x00\x00" +
		"\x03" + "\x01\x03\x00\x00\x00\x0c\x00\x00\x00\x01\x10" + "\x02\x08\x00\x00\x00\x02\x01a\x00\x00\x00\x00\x00\x03\x01b\x04\x00\x00\x00\x00\x12" + "\x04\x00\x03" +
		"\x04\x00\x00\x00" + "\x01\x01c\x00\x01\xfb\xff\xff\xff" + "\x02\x01T\x00\x10" + "\x03\x01v\x00\x05\x08\x00\x00\x00" + "\x04\x01P\x00\x00\xc8\x02\x01\x00\x12\x00\x00\x03"
	f := api.Face{Name: "M", Imports: []api.Import{{Name: "A", Key: 7}},
		Types:   []api.FaceType{{Form: api.FormArray, Length: 3, Size: 12, Base: api.Ref{Module: 1, Index: 16}}, {Form: api.FormRecord, Size: 8, Fields: []api.FaceField{{Name: "a", Base: basic(3)}, {Name: "b", Offset: 4, Base: own(2)}}}, {Form: api.FormOpen, Base: basic(3)}},
		Objects: []api.FaceObject{{Class: api.ClassConst, Name: "c", Base: basic(1), Value: 1<<32 - 5}, {Class: api.ClassType, Name: "T", Base: own(0)}, {Class: api.ClassVar, Name: "v", Base: basic(5), Value: 8}, {Class: api.ClassProc, Name: "P", Value: 200, Params: []api.FaceParam{{Var: true, Base: own(2)}, {Base: basic(3)}}}}}
	f.Types[1].Fields[1].Base = basic(6)
	rest = strings.Replace(rest, "\x01b\x04\x00\x00\x00\x00\x12", "\x01b\x04\x00\x00\x00\x00\x06", 1)
	for rest, f := range map[string]api.Face{rest: f, "\x00\x00\x00\x00\x00\x00": {Name: "M"}} {
		k := key.Of([]byte(rest))
		b, l, e := Bytes(f)
		if string(b) != "S1\x01M"+string(word.Bytes(k))+rest || k != l || e != api.OK {
			t.Errorf("%q %v", b, e)
		}
	}
}

// rekeyed has the key that its bytes ask for.
func rekeyed(b []byte) []byte {
	copy(b[4:], word.Bytes(key.Of(b[8:])))
	return b
}

// P8.2, P8.3: bytes that are not just a face's
func TestOf(t *testing.T) {
	b, k, _ := Bytes(sample())
	for i := 8; i < len(b); i++ {
		if f, l, e := Of(rekeyed(append([]byte(nil), b[:i]...))); f.Name != "" || l != 0 || e != api.ErrBytes {
			t.Error(i, e)
		}
		for x := range 256 {
			c := append([]byte(nil), b...)
			c[i] = byte(x)
			if _, _, e := Of(c); (e == api.OK) != (c[i] == b[i]) {
				t.Error(i, x, e)
			}
			f, l, e := Of(rekeyed(c))
			if e == api.OK {
				if d, m, _ := Bytes(f); string(d) != string(c) || m != l || c[i] != b[i] && (Same(f, sample()) || l == k) {
					t.Error(i, x, f)
				}
			} else if f.Name != "" || l != 0 || e != api.ErrBytes {
				t.Error(i, x, f, l, e)
			}
		}
	}
	for i := range 8 {
		c := append([]byte(nil), b...)
		c[i]++
		if _, _, e := Of(c); e != api.ErrBytes && i != 3 {
			t.Error(i, e)
		}
		if _, _, e := Of(b[:i]); e != api.ErrBytes {
			t.Error(i, e)
		}
	}
	if _, _, e := Of(rekeyed(append(append([]byte(nil), b...), 0))); e != api.ErrBytes {
		t.Error(e)
	}
	if _, _, e := Of(nil); e != api.ErrBytes {
		t.Error(e)
	}
}

// P8.1
func TestSame(t *testing.T) {
	for n, change := range []func(*api.Face){
		func(f *api.Face) { f.Name = "N" }, func(f *api.Face) { f.Imports[0].Key++ }, func(f *api.Face) { f.Types[0].Length++ }, func(f *api.Face) { f.Types[0].Size++ }, func(f *api.Face) { f.Types[2].Base = basic(1) },
		func(f *api.Face) { f.Types[1].Fields[0].Offset++ }, func(f *api.Face) { f.Types = append(f.Types, f.Types[0]) }, func(f *api.Face) { f.Objects[0].Value++ }, func(f *api.Face) { f.Objects[1].Name = "x" },
		func(f *api.Face) { f.Objects[5].Base = basic(1) }, func(f *api.Face) { f.Objects[6].Params[0].Var = false }, func(f *api.Face) { f.Objects = f.Objects[1:] },
	} {
		f := sample()
		if !Same(f, sample()) {
			t.Error("not the same")
		}
		if change(&f); !May(f) || Same(f, sample()) || Same(sample(), f) {
			t.Error(n)
		}
	}
	if File("M") != "M.s" {
		t.Error(File("M"))
	}
}
