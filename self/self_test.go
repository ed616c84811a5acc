package self

import (
	"testing"

	"selfsame/api"
	"selfsame/compile"
	"selfsame/store"
)

// P21.1, P21.2
func TestSources(t *testing.T) {
	l := Modules()
	if len(l) < 1 || len(l) > 12 || l[len(l)-1] != "Main" {
		t.Error(l)
	}
	s, _ := store.New(1 << 22)
	for _, name := range l {
		text, ok := Source(name)
		if !ok || len(text) > api.MaxSource {
			t.Error(name, ok, len(text))
		}
		s.Put("source", []byte(text))
		code, pos, e := compile.Build(s)
		if code != 0 || e != api.OK {
			t.Fatalf("%s: error %d at %d %v: %.80q", name, code, pos, e, text[min(pos, len(text)):])
		}
		b, e := s.Get(name + ".o")
		if e != api.OK {
			t.Error(name, e)
		}
		t.Log(name, len(text), len(b))
	}
	l[0] = "changed"
	if Modules()[0] == "changed" {
		t.Error("what is answered is new")
	}
	for _, name := range []string{"", "main", "Nothing"} {
		if text, ok := Source(name); text != "" || ok {
			t.Error(name)
		}
	}
}
