package boot

import (
	"strings"
	"testing"

	"selfsame/api"
	"selfsame/compile"
	"selfsame/samples"
	"selfsame/store"
)

func stage(t *testing.T, n int) *store.Store {
	t.Helper()
	s, e := Stage(n)
	if e != api.OK {
		t.Fatal(n, e)
	}
	return s
}

// P22.2, P22.3
func TestStages(t *testing.T) {
	one := stage(t, 1)
	for n := 2; n <= 4; n++ {
		if !stage(t, n).Same(one) {
			t.Error(n)
		}
	}
	names := ""
	for name, size := range one.Files() {
		names += name + " "
		if size == 0 {
			t.Error(name)
		}
	}
	if names != "Gen.o Gen.s Main.o Main.s Scan.o Scan.s Scope.o Scope.s Types.o Types.s " {
		t.Error(names)
	}
	for _, n := range []int{0, 5, -1, 1 << 40} {
		if s, e := Stage(n); s != nil || e != api.ErrArg {
			t.Error(n, e)
		}
	}
}

// both compiles a store's file 'source' both ways: the same files?
func both(t *testing.T, files, s *store.Store) {
	t.Helper()
	source, _ := s.Get("source")
	c := s.Copy()
	if _, _, e := compile.Build(s); e != api.OK {
		t.Fatal(e)
	}
	end, e := Run(files, c, Fuel(len(source), 1<<20))
	if e != api.OK || end.Stop != (api.Stop{Kind: api.StopHalt}) || !c.Same(s) {
		a, _ := s.Get("error")
		b, _ := c.Get("error")
		t.Errorf("%.300s: %v %v: %v %v", source, end, e, a, b)
	}
}

// P22.3, P0.3
func TestSamples(t *testing.T) {
	files := stage(t, 1)
	for _, source := range append(samples.Right(), samples.Wrong()...) {
		s, _ := store.New(1 << 20)
		s.Put("source", []byte(source))
		both(t, files, s)
	}
}

// P22.3, P0.3: at limits, and beyond
func TestLimits(t *testing.T) {
	files := stage(t, 1)
	for _, x := range samples.Limits() {
		if len(x.Source) > api.MaxSource {
			continue
		}
		s, _ := store.New(1 << 20)
		s.Put("source", []byte(x.Source))
		both(t, files, s)
	}
}

// P22.1
func TestFuel(t *testing.T) {
	for _, x := range [][3]int{{10, 0, 20600000}, {0, 0, 20000000}, {0, 10, 20030000}, {-5, -7, 20000000}, {1 << 30, 1 << 30, 20000000 + 63000<<30}, {1 << 40, 1<<62 + 5, 20000000 + 63000<<30}} {
		if Fuel(x[0], x[1]) != x[2] {
			t.Error(x, Fuel(x[0], x[1]))
		}
	}
}

// P22.1, P22.2
func TestRunAndStep(t *testing.T) {
	files := stage(t, 1)
	s, _ := store.New(1 << 16)
	s.Put("source", []byte("MODULE M; BEGIN HALT(3) END M."))
	for _, none := range []*store.Store{nil, {}} {
		_, a := Run(none, s, -1)
		_, b := Run(files, none, -1)
		if a != api.ErrNil || b != api.ErrNil || Step(files, none, "") != api.ErrNil || Step(nil, none, "") != api.ErrNil {
			t.Error(a, b)
		}
		if e := Step(none, s, "MODULE N; END N."); e != api.OK {
			t.Error(e)
		}
	}
	s.Put("source", []byte("MODULE M; BEGIN HALT(3) END M."))
	if _, e := Run(files, s, -1); e != api.ErrArg {
		t.Error(e)
	}
	if _, e := Run(s, s, 9); e != api.ErrNone {
		t.Error(e)
	}
	if end, e := Run(files, s, 1000); end != (api.End{Steps: 1000, Fuel: true}) || e != api.OK {
		t.Error(end, e)
	}
	end, e := Run(files, s, Fuel(30, 30))
	if end.Stop != (api.Stop{Kind: api.StopHalt}) || end.Fuel || e != api.OK {
		t.Error(end, e)
	}
	before := s.Copy()
	if e := Step(s, s, "MODULE K; END K."); e != api.ErrNone || !s.Same(before) {
		t.Error(e)
	}
	if e := Step(files, s, "MODULE K; END K."); e != api.OK {
		t.Error(e)
	}
	_, a := s.Get("K.o")
	_, b := s.Get("K.s")
	_, c := s.Get("source")
	if a != api.OK || b != api.OK || c != api.ErrNone {
		t.Error(a, b, c)
	}
	for _, f := range []*store.Store{nil, files} {
		if e := Step(f, s.Copy(), "MODULE K; END L."); e != api.ErrState {
			t.Error(e)
		}
		if e := Step(f, s.Copy(), strings.Repeat(" ", 65536)+"x"); e != api.ErrFull {
			t.Error(e)
		}
	}
	small, _ := store.New(40)
	if e := Step(files, small, "MODULE K; END K."); e != api.ErrState {
		t.Error(e)
	}
	small, _ = store.New(40)
	if e := Step(nil, small, "MODULE K; END K."); e != api.ErrFull {
		t.Error(e)
	}
}
