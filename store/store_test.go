package store

import (
	"strings"
	"testing"

	"selfsame/api"
)

func fresh(t *testing.T, capacity int) *Store {
	s, e := New(capacity)
	if e != api.OK || s == nil {
		t.Fatal(capacity, e)
	}
	return s
}

func want(t *testing.T, what string, got, want any) {
	t.Helper()
	if got != want {
		t.Errorf("%s: %v, not %v", what, got, want)
	}
}

// P2.1
func TestNew(t *testing.T) {
	for _, n := range []int{-1, api.MaxStore + 1, -1 << 62} {
		if s, e := New(n); s != nil || e != api.ErrArg {
			t.Error(n, s, e)
		}
	}
	for _, n := range []int{0, 1, api.MaxStore} {
		s := fresh(t, n)
		want(t, "Room", s.Room(), n)
		want(t, "Riders", s.Riders(), 0)
	}
	for _, name := range []string{"a", "Z", "a.b", "a9.", "a0", strings.Repeat("x", 31)} {
		want(t, name, MayName(name), true)
	}
	for _, name := range []string{"", "9", ".a", "a b", "a-b", "é", "aé", "a\x00", strings.Repeat("x", 32)} {
		want(t, name, MayName(name), false)
	}
}

// P2.2: the chapter's example
func TestExample(t *testing.T) {
	s := fresh(t, 9)
	want(t, "Fresh", s.Fresh("a"), 1)
	want(t, "Write", s.Write(1, 7), api.OK)
	want(t, "Old", s.Old("a"), 0)
	want(t, "Register", s.Register(1), api.OK)
	want(t, "Old", s.Old("a"), 2)
	want(t, "Read", s.Read(2), byte(7))
	want(t, "EOF", s.EOF(2), true)
	want(t, "WriteWord", s.WriteWord(2, 258), api.OK)
	want(t, "Length", s.Length(1), 5)
	s.Seek(1, 2)
	want(t, "Read", s.Read(1), byte(1))
	want(t, "Put", s.Put("b", make([]byte, 5)), api.ErrFull)
	want(t, "Put", s.Put("b", make([]byte, 4)), api.OK)
	want(t, "Room", s.Room(), 0)
}

// P2.2
func TestRiders(t *testing.T) {
	s := fresh(t, 100)
	want(t, "Fresh of no name", s.Fresh("9"), 0)
	want(t, "Old of nothing", s.Old("a"), 0)
	for _, f := range []int{0, -1, 1, 256, 1 << 40} {
		want(t, "EOF", s.EOF(f), true)
		want(t, "Length", s.Length(f), 0)
		want(t, "At", s.At(f), 0)
		want(t, "Read", s.Read(f), byte(0))
		want(t, "ReadWord", s.ReadWord(f), uint32(0))
		want(t, "Write", s.Write(f, 1), api.OK)
		want(t, "WriteWord", s.WriteWord(f, 1), api.OK)
		want(t, "Register", s.Register(f), api.OK)
		s.Seek(f, 3)
	}
	s.Put("a", []byte{1, 2, 3, 4, 5, 6})
	f := s.Old("a")
	want(t, "EOF", s.EOF(f), false)
	want(t, "ReadWord", s.ReadWord(f), uint32(0x04030201))
	want(t, "At", s.At(f), 4)
	want(t, "ReadWord at the end", s.ReadWord(f), uint32(0x0605))
	want(t, "At", s.At(f), 6)
	want(t, "Read at the end", s.Read(f), byte(0))
	want(t, "At", s.At(f), 6)
	s.Seek(f, 1<<32-1)
	want(t, "At", s.At(f), 0)
	s.Seek(f, 7)
	want(t, "At", s.At(f), 6)
	s.Seek(f, 4)
	want(t, "Write", s.Write(f, 9), api.OK)
	want(t, "At", s.At(f), 5)
	want(t, "Length", s.Length(f), 6)
	want(t, "WriteWord", s.WriteWord(f, 0xa0b0c0d0), api.OK)
	b, e := s.Get("a")
	want(t, "Get", string(b), "\x01\x02\x03\x04\x09\xd0\xc0\xb0\xa0")
	want(t, "Get", e, api.OK)
}

// P2.2: room
func TestFull(t *testing.T) {
	s := fresh(t, 6)
	f := s.Fresh("a")
	want(t, "WriteWord", s.WriteWord(f, 1), api.OK)
	want(t, "WriteWord", s.WriteWord(f, 1), api.ErrFull)
	want(t, "Length", s.Length(f), 4)
	s.Seek(f, 2)
	want(t, "WriteWord", s.WriteWord(f, 1<<24), api.OK)
	want(t, "Length", s.Length(f), 6)
	want(t, "Write", s.Write(f, 1), api.ErrFull)
	s.Seek(f, 5)
	want(t, "Write", s.Write(f, 7), api.OK)
	s = fresh(t, 0)
	for i := range api.MaxFiles {
		want(t, "Put", s.Put("f"+string(rune('a'+i/26))+string(rune('a'+i%26)), nil), api.OK)
	}
	want(t, "Put", s.Put("g", nil), api.ErrFull)
	want(t, "Put", s.Put("faa", nil), api.OK)
	f = s.Fresh("g")
	want(t, "Register", s.Register(f), api.ErrFull)
	f = s.Fresh("faa")
	want(t, "Register", s.Register(f), api.OK)
	for s.Riders() < api.MaxRiders {
		s.Fresh("h")
	}
	want(t, "Fresh", s.Fresh("h"), 0)
	want(t, "Old", s.Old("faa"), 0)
	want(t, "Riders", s.Riders(), api.MaxRiders)
}

// P2.2, P2.4: a file goes on under its riders
func TestHeld(t *testing.T) {
	s := fresh(t, 10)
	s.Put("a", []byte("old"))
	f := s.Old("a")
	want(t, "Put", s.Put("a", []byte("newer")), api.OK)
	want(t, "Room", s.Room(), 2)
	want(t, "Read", s.Read(f), byte('o'))
	s.Delete("a")
	want(t, "Room", s.Room(), 7)
	_, e := s.Get("a")
	want(t, "Get", e, api.ErrNone)
	want(t, "Read", s.Read(f), byte('l'))
	want(t, "Write", s.Write(f, 'x'), api.OK)
	want(t, "Register", s.Register(f), api.OK)
	b, _ := s.Get("a")
	want(t, "Get", string(b), "olx")
	want(t, "Register", s.Register(f), api.OK)
	want(t, "Room", s.Room(), 7)
	g := s.Fresh("a")
	s.Write(g, 1)
	want(t, "Register", s.Register(g), api.OK)
	b, _ = s.Get("a")
	want(t, "Get", string(b), "\x01")
	want(t, "Room", s.Room(), 6)
	s.Delete("nothing")
	want(t, "Put over a free one", s.Put("b", []byte("123456")), api.OK)
	want(t, "Put over a free one", s.Put("b", []byte("654321")), api.OK)
	want(t, "Put over a held one", s.Put("a", []byte("1")), api.ErrFull)
	b, _ = s.Get("a")
	want(t, "refused: the same", string(b), "\x01")
	s = fresh(t, 10)
	s.Put("a", []byte("12345"))
	g = s.Fresh("a")
	s.WriteWord(g, 1)
	want(t, "both", s.Room(), 1)
	s.Register(g)
	want(t, "what nobody holds goes", s.Room(), 6)
}

// P2.3
func TestDirectory(t *testing.T) {
	s := fresh(t, 50)
	b := []byte{1, 2}
	want(t, "Put", s.Put("b", b), api.OK)
	b[0] = 9
	got, _ := s.Get("b")
	want(t, "Put keeps", got[0], byte(1))
	got[0] = 8
	got, _ = s.Get("b")
	want(t, "Get hands out", got[0], byte(1))
	want(t, "Put", s.Put("9", nil), api.ErrArg)
	want(t, "Put", s.Put("9", make([]byte, 99)), api.ErrArg)
	want(t, "Put", s.Put("c", make([]byte, 99)), api.ErrFull)
	_, e := s.Get("9")
	want(t, "Get", e, api.ErrArg)
	want(t, "Drop", s.Drop("9"), api.ErrArg)
	want(t, "Drop", s.Drop("c"), api.ErrNone)
	s.Put("a.o", []byte{1})
	s.Put("Z", nil)
	files := s.Files()
	s.Put("later", nil)
	for range 2 {
		text := ""
		for name, n := range files {
			text += name + string(rune('0'+n)) + " "
		}
		want(t, "Files", text, "Z0 a.o1 b2 ")
	}
	for name := range s.Files() {
		want(t, "the first", name, "Z")
		break
	}
	f := s.Old("b")
	c := s.Copy()
	want(t, "Same", s.Same(c), true)
	want(t, "Riders", c.Riders(), 1)
	c.Write(f, 7)
	want(t, "At", s.At(f), 0)
	want(t, "Same", s.Same(c), false)
	got, _ = c.Get("b")
	want(t, "a copy's rider stands on a copy's file", string(got), "\x07\x02")
	want(t, "Drop", s.Drop("b"), api.OK)
	want(t, "Room", s.Room(), 47)
	want(t, "Same", s.Same(c), false)
	want(t, "Same", c.Same(s), false)
}

// P2.3: nothing
func TestNil(t *testing.T) {
	for _, s := range []*Store{nil, {}} {
		want(t, "Put", s.Put("9", nil), api.ErrNil)
		_, e := s.Get("9")
		want(t, "Get", e, api.ErrNil)
		want(t, "Drop", s.Drop("a"), api.ErrNil)
		want(t, "Old", s.Old("a"), 0)
		want(t, "Fresh", s.Fresh("a"), 0)
		want(t, "EOF", s.EOF(1), true)
		want(t, "Length", s.Length(1)+s.At(1)+s.Riders()+s.Room(), 0)
		want(t, "Read", s.Read(1), byte(0))
		want(t, "ReadWord", s.ReadWord(1), uint32(0))
		want(t, "Write", s.Write(1, 1), api.ErrNil)
		want(t, "WriteWord", s.WriteWord(1, 1), api.ErrNil)
		want(t, "Register", s.Register(1), api.ErrNil)
		s.Seek(1, 1)
		s.Delete("a")
		want(t, "Copy", s.Copy(), (*Store)(nil))
		want(t, "Same", s.Same(nil) && s.Same(&Store{}), true)
		want(t, "Same", s.Same(fresh(t, 1)) || fresh(t, 1).Same(s), false)
		for range s.Files() {
			t.Error("a file")
		}
	}
}
