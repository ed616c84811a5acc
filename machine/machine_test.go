package machine

import (
	"testing"

	"selfsame/api"
	"selfsame/isa"
	"selfsame/store"
)

func code(t *testing.T, l ...api.Ins) []uint32 {
	t.Helper()
	var ws []uint32
	for _, i := range l {
		w, e := isa.Word(i)
		if e != api.OK {
			t.Fatal(i, e)
		}
		ws = append(ws, w)
	}
	return ws
}

func mov(a, n int) api.Ins { return api.Ins{Form: api.FormIm, A: a, Im: n & 0xffff, V: n < 0} }

func sys(n int) api.Ins { return api.Ins{Form: api.FormSys, Cond: 7, N: n} }

func stw(a, b, off int) api.Ins { return api.Ins{Form: api.FormStore, A: a, B: b, Off: off} }

func ldw(a, b, off int) api.Ins { return api.Ins{Form: api.FormLoad, A: a, B: b, Off: off} }

func machine(t *testing.T, bytes, room int, l ...api.Ins) *Machine {
	t.Helper()
	s, _ := store.New(room)
	m, e := New(bytes, code(t, l...), s)
	if e != api.OK {
		t.Fatal(e)
	}
	return m
}

// P5.1
func TestNew(t *testing.T) {
	s, _ := store.New(9)
	for _, n := range []int{-4, 0, 60, 63, 65, 66, api.MaxMemory + 4, 1 << 40} {
		if m, e := New(n, nil, s); m != nil || e != api.ErrArg {
			t.Error(n, m, e)
		}
	}
	if m, e := New(64, make([]uint32, 99), nil); m != nil || e != api.ErrArg {
		t.Error(m, e)
	}
	if m, e := New(64, nil, &store.Store{}); m != nil || e != api.ErrArg {
		t.Error(m, e)
	}
	if m, e := New(64, make([]uint32, 17), s); m != nil || e != api.ErrMemory {
		t.Error(m, e)
	}
	if m, e := New(64, make([]uint32, 16), s); e != api.OK || m.Heap() != 64 {
		t.Error(e)
	}
	if m, e := New(api.MaxMemory, nil, s); m == nil || e != api.OK {
		t.Error(e)
	}
	image := []uint32{0x04030201, 9}
	m, e := New(64, image, s)
	image[0] = 0
	c := api.Cpu{}
	c.R[14] = 64
	b, _ := m.Byte(1)
	w, _ := m.Word(4)
	z, _ := m.Word(60)
	if e != api.OK || m.Cpu() != c || m.Heap() != 8 || m.Size() != 64 || m.Store() != s || b != 2 || w != 9 || z != 0 || m.Stopped() != (api.Stop{}) {
		t.Error(m)
	}
}

// P5.2: the chapter's examples, and how else it stops
func TestStops(t *testing.T) {
	for n, x := range []struct {
		code  []api.Ins
		steps int
		stop  api.Stop
		pc    uint32
	}{
		{[]api.Ins{mov(0, 7), sys(16)}, 2, api.Stop{Kind: api.StopHalt, Code: 7}, 2},
		{[]api.Ins{mov(0, -7), sys(16)}, 2, api.Stop{Kind: api.StopHalt, Code: 1<<32 - 7}, 2},
		{[]api.Ins{stw(0, 14, -4), stw(0, 14, 0)}, 2, api.Stop{Kind: api.StopStack}, 2},
		{[]api.Ins{stw(0, 14, -56), stw(0, 14, -57)}, 2, api.Stop{Kind: api.StopStack}, 2},
		{[]api.Ins{stw(0, 14, -2)}, 1, api.Stop{Kind: api.StopMemory}, 1},
		{[]api.Ins{stw(0, 0, 64)}, 1, api.Stop{Kind: api.StopMemory}, 1},
		{[]api.Ins{stw(0, 0, -4)}, 1, api.Stop{Kind: api.StopMemory}, 1},
		{[]api.Ins{{Form: api.FormStore, V: true, A: 0, B: 14, Off: 1}}, 1, api.Stop{Kind: api.StopStack}, 1},
		{[]api.Ins{stw(0, 0, 6)}, 1, api.Stop{Kind: api.StopMemory}, 1},
		{[]api.Ins{ldw(0, 14, 0)}, 1, api.Stop{Kind: api.StopMemory}, 1},
		{[]api.Ins{ldw(0, 14, -4), ldw(0, 14, -3)}, 2, api.Stop{Kind: api.StopMemory}, 2},
		{[]api.Ins{{Form: api.FormLoad, V: true, A: 0, B: 14}}, 1, api.Stop{Kind: api.StopMemory}, 1},
		{[]api.Ins{sys(7)}, 1, api.Stop{Kind: api.StopTrap, Code: 7}, 1},
		{[]api.Ins{sys(29)}, 1, api.Stop{Kind: api.StopWord}, 1},
		{[]api.Ins{sys(255)}, 1, api.Stop{Kind: api.StopWord}, 1},
		{[]api.Ins{{Op: api.OpDiv}}, 1, api.Stop{Kind: api.StopWord}, 1},
		{[]api.Ins{{Form: api.FormJump, Cond: 7, Off: 14}, mov(0, 0)}, 3, api.Stop{Kind: api.StopMemory}, 16},
		{[]api.Ins{{Form: api.FormJump, Cond: 7, Off: -2}}, 2, api.Stop{Kind: api.StopMemory}, 1<<32 - 1},
	} {
		m := machine(t, 64, 9, x.code...)
		if got := m.Run(99); got != x.steps || m.Stopped() != x.stop || m.Cpu().PC != x.pc {
			t.Error(n, got, m.Stopped(), m.Cpu().PC)
		}
		if m.Step() || m.Run(5) != 0 {
			t.Error(n, "goes on")
		}
	}
	m := machine(t, 64, 9, api.Ins{Form: api.FormJump, Cond: 7, Off: -1})
	if !m.Step() || m.Run(-1) != 0 || m.Run(0) != 0 || m.Run(7) != 7 {
		t.Error("a loop")
	}
}

// P5.2: bytes and words of memory
func TestMemory(t *testing.T) {
	m := machine(t, 128, 9, mov(1, 0xa1b2), stw(1, 14, -8), api.Ins{Form: api.FormStore, V: true, A: 1, B: 14, Off: -5}, ldw(2, 14, -8), api.Ins{Form: api.FormLoad, V: true, A: 3, B: 14, Off: -7}, sys(16))
	m.Run(99)
	if r := m.Cpu().R; r[2] != 0xb200a1b2 || r[3] != 0xa1 || m.Stopped().Kind != api.StopHalt {
		t.Error(r, m.Stopped())
	}
}

// P5.2: NEW
func TestHeap(t *testing.T) {
	m := machine(t, 128, 9, mov(0, 5), sys(17), mov(0, -1), sys(17))
	m.SetWord(16, 99)
	if m.Run(2); m.Heap() != 24 || m.Cpu().R[0] != 16 {
		t.Error(m.Heap(), m.Cpu())
	}
	if w, _ := m.Word(16); w != 0 {
		t.Error(w)
	}
	if m.Run(9); m.Stopped() != (api.Stop{Kind: api.StopHeap}) || m.Heap() != 24 {
		t.Error(m.Stopped())
	}
	for _, x := range []struct {
		bytes, r14 uint32
		stop       api.StopKind
	}{{112, 128, api.StopNone}, {113, 128, api.StopHeap}, {112, 127, api.StopHeap}, {116, 1 << 31, api.StopHeap}, {112, 1 << 31, api.StopNone}, {0, 16, api.StopNone}, {0, 15, api.StopHeap}} {
		m := machine(t, 128, 9, sys(17), sys(1), sys(1), sys(1))
		c := m.Cpu()
		c.R[0], c.R[14] = x.bytes, x.r14
		m.SetCpu(c)
		if m.Step(); m.Stopped().Kind != x.stop {
			t.Error(x, m.Stopped())
		}
	}
}

// do is what a call answers, and how the machine stands then.
func do(m *Machine, n int, a, b uint32) (uint32, api.Stop) {
	m = &Machine{cpu: m.cpu, mem: m.mem, heap: m.heap, store: m.store, calls: m.calls}
	w, _ := isa.Word(sys(n))
	m.SetWord(0, w)
	c := m.Cpu()
	c.PC, c.R[0], c.R[1] = 0, a, b
	m.SetCpu(c)
	m.Step()
	return m.Cpu().R[0], m.Stopped()
}

// P5.2: the calls of files
func TestCalls(t *testing.T) {
	m := machine(t, 64, 10, mov(0, 0))
	copy(m.mem[8:], "ab\x00cd")
	copy(m.mem[62:], "zz")
	m.store.Put("ab", []byte{1, 2, 3, 4, 5})
	for n, x := range []struct {
		call int
		a, b uint32
		want uint32
		stop api.StopKind
	}{
		{api.CallOld, 8, 5, 1, 0}, {api.CallOld, 8, 2, 2, 0}, {api.CallOld, 8, 1, 0, 0}, {api.CallOld, 62, 2, 0, 0}, {api.CallOld, 62, 3, 62, api.StopMemory}, {api.CallOld, 8, 57, 8, api.StopMemory}, {api.CallOld, 65, 0, 65, api.StopMemory}, {api.CallOld, 64, 0, 0, 0}, {api.CallOld, 1<<32 - 1, 1<<32 - 1, 1<<32 - 1, api.StopMemory},
		{api.CallFresh, 62, 2, 3, 0}, {api.CallFresh, 0, 0, 0, 0}, {api.CallFresh, 60, 5, 60, api.StopMemory},
		{api.CallEOF, 1, 0, 0, 0}, {api.CallEOF, 3, 0, 1, 0}, {api.CallEOF, 9, 0, 1, 0}, {api.CallEOF, 1<<32 - 1, 0, 1, 0},
		{api.CallLength, 1, 0, 5, 0}, {api.CallLength, 9, 0, 0, 0},
		{api.CallRead, 1, 0, 1, 0}, {api.CallReadWord, 1, 0, 0x05040302, 0}, {api.CallEOF, 1, 0, 1, 0}, {api.CallRead, 9, 0, 0, 0},
		{api.CallWrite, 3, 0x107, 3, 0}, {api.CallWriteWord, 3, 0x0a0b0c0d, 3, 0}, {api.CallWrite, 3, 1, 3, api.StopStore}, {api.CallWriteWord, 3, 1, 3, api.StopStore},
		{api.CallSeek, 3, 1, 3, 0}, {api.CallRead, 3, 0, 13, 0}, {api.CallSeek, 3, 1<<32 - 1, 3, 0}, {api.CallRead, 3, 0, 7, 0},
		{api.CallRegister, 3, 0, 3, 0}, {api.CallLength, 3, 0, 5, 0}, {api.CallWrite, 9, 0, 9, 0}, {api.CallRegister, 9, 0, 9, 0},
		{api.CallDelete, 8, 3, 8, 0}, {api.CallDelete, 60, 5, 60, api.StopMemory}, {api.CallOld, 8, 2, 0, 0},
	} {
		if got, stop := do(m, x.call, x.a, x.b); got != x.want || stop != (api.Stop{Kind: x.stop}) {
			t.Error(n, x, got, stop)
		}
	}
	if b, e := m.Store().Get("zz"); string(b) != "\x07\x0d\x0c\x0b\x0a" || e != api.OK {
		t.Error(b, e)
	}
	for i := range api.MaxFiles - 1 {
		m.store.Put("f"+string(rune('a'+i/26))+string(rune('a'+i%26)), nil)
	}
	f, _ := do(m, api.CallFresh, 8, 2)
	if _, stop := do(m, api.CallRegister, f, 0); stop.Kind != api.StopStore {
		t.Error(stop)
	}
}

// P5.3
func TestLooks(t *testing.T) {
	m := machine(t, 64, 9, mov(0, 1), sys(16))
	for _, p := range []uint32{1, 2, 3, 61, 64, 68, 1<<32 - 4} {
		if w, e := m.Word(p); w != 0 || e != api.ErrArg {
			t.Error(p, w, e)
		}
		if e := m.SetWord(p, 1); e != api.ErrArg {
			t.Error(p, e)
		}
	}
	if b, e := m.Byte(64); b != 0 || e != api.ErrArg {
		t.Error(b, e)
	}
	if e := m.SetWord(60, 0x01020304); e != api.OK {
		t.Error(e)
	}
	b, e := m.Byte(63)
	if b != 1 || e != api.OK {
		t.Error(b, e)
	}
	m.Store().Put("a", []byte{1})
	c := m.Copy()
	c.Run(9)
	c.SetWord(60, 7)
	c.Store().Drop("a")
	w, _ := m.Word(60)
	if m.Stopped().Kind != api.StopNone || m.Cpu().PC != 0 || w != 0x01020304 || c.Stopped().Code != 1 {
		t.Error(m, c)
	}
	if _, e := m.Store().Get("a"); e != api.OK {
		t.Error(e)
	}
	for _, m := range []*Machine{nil, {}} {
		_, e := m.Word(1)
		_, f := m.Byte(99)
		if e != api.ErrNil || f != api.ErrNil || m.SetWord(1, 1) != api.ErrNil || m.SetCpu(api.Cpu{}) != api.ErrNil {
			t.Error(e, f)
		}
		if m.Step() || m.Run(3) != 0 || m.Stopped() != (api.Stop{}) || m.Cpu() != (api.Cpu{}) || m.Heap() != 0 || m.Size() != 0 || m.Store() != nil || m.Copy() != nil {
			t.Error("nil")
		}
	}
}

// P5.4
func TestAnyMemory(t *testing.T) {
	seed := uint32(7)
	for range 300 {
		var image []uint32
		for range 40 {
			seed = seed*1664525 + 1013904223
			image = append(image, seed^seed>>13)
		}
		s, _ := store.New(50)
		m, _ := New(256, image, s)
		o := m.Copy()
		a, b := m.Run(13), 0
		a += m.Run(200)
		b = o.Run(213)
		if a != b || m.Cpu() != o.Cpu() || m.Stopped() != o.Stopped() {
			t.Error(a, b, m.Cpu(), o.Cpu())
		}
		for p := uint32(0); p < 256; p += 4 {
			v, _ := m.Word(p)
			w, _ := o.Word(p)
			if v != w {
				t.Error(p, v, w)
			}
		}
	}
}
