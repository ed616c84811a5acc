package object

import (
	"strings"
	"testing"

	"selfsame/api"
)

func sample() api.Object {
	return api.Object{Name: "M1", Key: 0x01020304, Imports: []api.Import{{Name: "A", Key: 7}, {Name: "Bc", Key: 1 << 31}}, Vars: 8, Text: []byte("abcd"), Code: []uint32{1, 2, 3, 1 << 31}, Entries: []int{0, 3}, Fixups: []api.Fixup{{At: 0, Module: 0}, {At: 1, Module: 2, Entry: 200}, {At: 2, Module: 1, Entry: 1}}}
}

// P7.1, P7.2
func TestMay(t *testing.T) {
	for n, change := range []func(*api.Object){
		func(o *api.Object) {},
		func(o *api.Object) { o.Imports, o.Fixups, o.Text = nil, nil, nil },
		func(o *api.Object) { o.Name = strings.Repeat("x", 15) },
		func(o *api.Object) { o.Vars = api.MaxData - 4 },
		func(o *api.Object) { o.Text, o.Vars = make([]byte, api.MaxText), api.MaxData-api.MaxText },
		func(o *api.Object) { o.Code = make([]uint32, api.MaxCode) },
		func(o *api.Object) { o.Entries = make([]int, 201) },
		func(o *api.Object) {
			o.Code, o.Fixups = make([]uint32, api.MaxCode), nil
			for i := range api.MaxFixups {
				o.Fixups = append(o.Fixups, api.Fixup{At: 2 * i})
			}
		},
		func(o *api.Object) { o.Imports = imports(12) },
	} {
		o := sample()
		change(&o)
		if b, e := Bytes(o); !May(o) || len(b) == 0 || e != api.OK {
			t.Error(n, e)
		} else if p, e := Of(b); !Same(o, p) || e != api.OK {
			t.Error(n, p, e)
		}
	}
	for n, change := range []func(*api.Object){
		func(o *api.Object) { o.Name = "" },
		func(o *api.Object) { o.Name = "1M" },
		func(o *api.Object) { o.Name = "M.x" },
		func(o *api.Object) { o.Name = strings.Repeat("x", 16) },
		func(o *api.Object) { o.Imports[0].Name = "M1" },
		func(o *api.Object) { o.Imports[0].Name = "Bc" },
		func(o *api.Object) { o.Imports[0].Name = "" },
		func(o *api.Object) { o.Imports = imports(13) },
		func(o *api.Object) { o.Vars = 6 },
		func(o *api.Object) { o.Vars = -4 },
		func(o *api.Object) { o.Vars = api.MaxData },
		func(o *api.Object) { o.Text = []byte("abc") },
		func(o *api.Object) { o.Text = make([]byte, api.MaxText+4) },
		func(o *api.Object) { o.Code = make([]uint32, api.MaxCode+1) },
		func(o *api.Object) { o.Entries = nil },
		func(o *api.Object) { o.Entries = make([]int, 202) },
		func(o *api.Object) { o.Entries[1] = 4 },
		func(o *api.Object) { o.Entries[0] = -1 },
		func(o *api.Object) { o.Fixups[2].At, o.Fixups[2].Entry = 3, 0 },
		func(o *api.Object) { o.Fixups[2].At = 1 },
		func(o *api.Object) { o.Fixups[0].At = -1 },
		func(o *api.Object) { o.Fixups[2].At = 4; o.Fixups[2].Entry = 1 },
		func(o *api.Object) { o.Fixups[0].Module = 3 },
		func(o *api.Object) { o.Fixups[0].Module = -1 },
		func(o *api.Object) { o.Fixups[0].Entry = 1 },
		func(o *api.Object) { o.Fixups[1].Entry = 201 },
		func(o *api.Object) { o.Fixups[1].Entry = -1 },
		func(o *api.Object) {
			o.Code, o.Fixups = make([]uint32, api.MaxCode), nil
			for i := range api.MaxFixups + 1 {
				o.Fixups = append(o.Fixups, api.Fixup{At: i})
			}
		},
	} {
		o := sample()
		change(&o)
		if b, e := Bytes(o); May(o) || b != nil || e != api.ErrArg {
			t.Error(n, e)
		}
	}
}

func imports(n int) []api.Import {
	var l []api.Import
	for i := range n {
		l = append(l, api.Import{Name: "I" + string(rune('a'+i))})
	}
	return l
}

// P7.2: the chapter's example, and all fields
func TestBytes(t *testing.T) {
	for want, o := range map[string]api.Object{
		"O1\x01M\x05\x00\x00\x00\x00\x00\x00\x00\x00\x00\x00\x00\x00\x01\x00\x00\x00\x00\x00\x00\x00\x01\x00\x00\x00\x00\x00\x00\x00\x00": {Name: "M", Key: 5, Code: []uint32{0}, Entries: []int{0}},
		"O1\x02M1\x04\x03\x02\x01\x02\x01A\x07\x00\x00\x00\x02Bc\x00\x00\x00\x80\x08\x00\x00\x00\x04\x00\x00\x00abcd\x04\x00\x00\x00\x01\x00\x00\x00\x02\x00\x00\x00\x03\x00\x00\x00\x00\x00\x00\x80\x02\x00\x00\x00\x00\x03\x00\x00\x00" +
			"\x03\x00\x00\x00\x00\x00\x00\x00\x00\x00\x01\x00\x00\x00\x02\xc8\x02\x00\x00\x00\x01\x01": sample(),
	} {
		b, e := Bytes(o)
		if string(b) != want || e != api.OK {
			t.Errorf("%q %v", b, e)
		}
		if p, e := Of(b); !Same(o, p) || e != api.OK {
			t.Error(p, e)
		}
	}
}

// P7.2, P7.3: bytes that are not just an object's
func TestOf(t *testing.T) {
	b, _ := Bytes(sample())
	for i := range b {
		if o, e := Of(b[:i]); o.Name != "" || e != api.ErrBytes {
			t.Error(i, e)
		}
		for x := range 256 {
			c := append([]byte(nil), b...)
			c[i] = byte(x)
			o, e := Of(c)
			if e != api.OK {
				if o.Name != "" || len(o.Code) != 0 {
					t.Error(i, x, o)
				}
				continue
			}
			if d, _ := Bytes(o); string(d) != string(c) || x != int(b[i]) && Same(o, sample()) {
				t.Error(i, x, o)
			}
		}
	}
	if _, e := Of(append(b, 0)); e != api.ErrBytes {
		t.Error(e)
	}
	o, _ := Of(b)
	b[len(b)-1], b[30] = 1, 9
	if !Same(o, sample()) {
		t.Error("what is answered is new")
	}
}

// P7.1
func TestNames(t *testing.T) {
	for s, want := range map[string]bool{"M": true, "a9Z": true, "": false, "9": false, "M.": false, "M o": false, "é": false, "abcdefghijklmno": true, "abcdefghijklmnop": false} {
		if MayName(s) != want {
			t.Error(s)
		}
	}
	if File("M") != "M.o" {
		t.Error(File("M"))
	}
	for n, change := range []func(*api.Object){
		func(o *api.Object) { o.Name = "N" }, func(o *api.Object) { o.Key++ }, func(o *api.Object) { o.Imports[1].Key++ }, func(o *api.Object) { o.Vars++ },
		func(o *api.Object) { o.Text[0]++ }, func(o *api.Object) { o.Code[3]++ }, func(o *api.Object) { o.Entries[1]-- }, func(o *api.Object) { o.Fixups[1].Entry-- },
	} {
		o := sample()
		if !Same(o, sample()) {
			t.Error("not the same")
		}
		if change(&o); Same(o, sample()) || Same(sample(), o) {
			t.Error(n)
		}
	}
	if !Same(api.Object{Text: []byte{}, Code: []uint32{}}, api.Object{}) {
		t.Error("nil and empty lists are one")
	}
}
