package risc

import (
	"testing"

	"selfsame/api"
	"selfsame/isa"
)

func wordOf(t *testing.T, i api.Ins) uint32 {
	t.Helper()
	w, e := isa.Word(i)
	if e != api.OK {
		t.Fatal(i, e)
	}
	return w
}

func cpu(pc uint32, r ...uint32) api.Cpu {
	c := api.Cpu{PC: pc, H: 77}
	copy(c.R[:], r)
	return c
}

// P4.1: what comes of operations
func TestOperations(t *testing.T) {
	const minus = 1<<32 - 1
	for n, x := range []struct {
		op         int
		u          bool
		b, c       uint32
		carry      bool
		want, h    uint32
		n, z, p, v bool
	}{
		{api.OpMov, false, 0, 5, true, 5, 77, false, false, true, false},
		{api.OpMov, false, 0, 0, false, 0, 77, false, true, false, false},
		{api.OpLsl, false, 3, 33, true, 6, 77, false, false, true, false},
		{api.OpAsr, false, 1 << 31, 31, false, minus, 77, true, false, false, false},
		{api.OpRor, false, 1, 1, false, 1 << 31, 77, true, false, false, false},
		{api.OpAnd, false, 6, 3, false, 2, 77, false, false, false, false},
		{api.OpAnn, false, 6, 3, false, 4, 77, false, false, false, false},
		{api.OpIor, false, 6, 3, false, 7, 77, false, false, false, false},
		{api.OpXor, false, 6, 3, false, 5, 77, false, false, false, false},
		{api.OpXor, false, 6, 6, true, 0, 77, false, true, true, false},
		{api.OpAdd, false, minus, 1, true, 0, 77, false, true, true, false},
		{api.OpAdd, true, 1<<31 - 1, 0, true, 1 << 31, 77, true, false, false, true},
		{api.OpSub, false, 5, 7, true, minus - 1, 77, true, false, true, false},
		{api.OpSub, true, 5, 5, true, minus, 77, true, false, true, false},
		{api.OpSub, false, 1 << 31, 1, false, 1<<31 - 1, 77, false, false, false, true},
		{api.OpMul, false, minus, 2, false, minus - 1, minus, true, false, false, false},
		{api.OpMul, true, minus, 2, false, minus - 1, 1, true, false, false, false},
		{api.OpDiv, false, minus - 6, 2, false, minus - 3, 1, true, false, false, false},
	} {
		for _, form := range []api.InsForm{api.FormReg, api.FormIm} {
			if form == api.FormIm && x.c > 0xffff {
				continue
			}
			if form == api.FormIm && x.op == api.OpMov && x.u {
				continue
			}
			i := api.Ins{Form: form, Op: x.op, U: x.u, A: 3}
			if x.op != api.OpMov {
				i.B = 1
			}
			if form == api.FormReg {
				i.C = 2
			} else {
				i.Im = int(x.c)
			}
			c := cpu(9, 0, x.b, x.c)
			c.C = x.carry
			d, ev := Step(c, wordOf(t, i))
			w := c
			w.PC, w.R[3], w.H, w.N, w.Z, w.C, w.V = 10, x.want, x.h, x.n, x.z, x.p, x.v
			if d != w || ev != (api.Event{}) {
				t.Error(n, form, d, w, ev)
			}
		}
	}
	c := cpu(1)
	c.N, c.C = true, true
	d, _ := Step(c, wordOf(t, api.Ins{U: true, A: 1}))
	e, _ := Step(c, wordOf(t, api.Ins{U: true, A: 1, C: 1}))
	f, _ := Step(c, wordOf(t, api.Ins{Form: api.FormIm, U: true, A: 1, Im: 0xfffe}))
	if d.R[1] != 77 || e.R[1] != 0xa0000000 || !e.N || f.R[1] != 0xfffe0000 || !f.N || f.Z {
		t.Error(d, e, f)
	}
}

// P4.1: divisors that may not be, words that are none
func TestOdd(t *testing.T) {
	c := cpu(4, 1, 2, 1<<31)
	c.V, c.Z = true, true
	want := c
	want.PC = 5
	for _, w := range []uint32{wordOf(t, api.Ins{A: 0, B: 1, Op: api.OpDiv, C: 2}), wordOf(t, api.Ins{A: 0, B: 1, Op: api.OpDiv, C: 9}), wordOf(t, api.Ins{Form: api.FormIm, A: 0, B: 1, Op: api.OpDiv}), 0x000c0000, 0xc0000010} {
		if d, ev := Step(c, w); d != want || ev != (api.Event{Kind: api.EventOdd}) {
			t.Error(d, ev)
		}
	}
}

// P4.1: loads, stores, jumps, the system
func TestAsks(t *testing.T) {
	c := cpu(9, 0x12345678, 100)
	c.R[15] = 444
	for n, x := range []struct {
		i       api.Ins
		pc, r15 uint32
		ev      api.Event
	}{
		{api.Ins{Form: api.FormLoad, A: 3, B: 1, Off: -104}, 10, 444, api.Event{Kind: api.EventLoad, Place: 1<<32 - 4, Reg: 3}},
		{api.Ins{Form: api.FormLoad, V: true, A: 3, B: 1, Off: 5}, 10, 444, api.Event{Kind: api.EventLoad, Place: 105, Reg: 3, Byte: true}},
		{api.Ins{Form: api.FormStore, A: 0, B: 1}, 10, 444, api.Event{Kind: api.EventStore, Place: 100, Reg: 1, Value: 0x12345678}},
		{api.Ins{Form: api.FormStore, V: true, A: 0, B: 1}, 10, 444, api.Event{Kind: api.EventStore, Place: 100, Reg: 1, Value: 0x78, Byte: true}},
		{api.Ins{Form: api.FormJump, V: true, Cond: 7, Off: -3}, 7, 40, api.Event{}},
		{api.Ins{Form: api.FormJump, Cond: 7, Off: -13}, 1<<32 - 3, 444, api.Event{}},
		{api.Ins{Form: api.FormJump, V: true, Cond: 15, Off: -3}, 10, 444, api.Event{}},
		{api.Ins{Form: api.FormTo, Cond: 7, C: 15}, 111, 444, api.Event{}},
		{api.Ins{Form: api.FormTo, V: true, Cond: 7, C: 15}, 111, 40, api.Event{}},
		{api.Ins{Form: api.FormTo, Cond: 1, C: 15}, 10, 444, api.Event{}},
		{api.Ins{Form: api.FormSys, Cond: 7, N: 15}, 10, 444, api.Event{Kind: api.EventTrap, N: 15}},
		{api.Ins{Form: api.FormSys, Cond: 9, N: 16}, 10, 444, api.Event{Kind: api.EventCall, N: 16}},
		{api.Ins{Form: api.FormSys, Cond: 1, N: 16}, 10, 444, api.Event{}},
	} {
		want := c
		want.PC, want.R[15] = x.pc, x.r15
		if d, ev := Step(c, wordOf(t, x.i)); d != want || ev != x.ev {
			t.Error(n, d, want, ev)
		}
	}
	c.R[2] = 43
	if d, _ := Step(c, wordOf(t, api.Ins{Form: api.FormTo, Cond: 7, C: 2})); d.PC != 10 {
		t.Error(d.PC)
	}
	c.PC = 1<<32 - 1
	if d, _ := Step(c, wordOf(t, api.Ins{Form: api.FormJump, Cond: 7, Off: 5})); d.PC != 5 {
		t.Error(d.PC)
	}
}

// P4.2, P4.3
func TestHolds(t *testing.T) {
	for f := range 16 {
		c := api.Cpu{N: f&8 != 0, Z: f&4 != 0, C: f&2 != 0, V: f&1 != 0}
		if Flags(c) != uint32(f)<<28 {
			t.Error(f, Flags(c))
		}
		want := []bool{c.N, c.Z, c.C, c.V, c.C || c.Z, c.N != c.V, c.N != c.V || c.Z, true}
		for n := range 8 {
			for _, k := range []int{n, n + 16, n - 16, n + 8, n - 8, n + 1<<40} {
				if Holds(c, k) != (want[n] != (k-n == 8 || k-n == -8)) {
					t.Error(f, k, Holds(c, k))
				}
			}
		}
	}
}

// P4.2
func TestLoaded(t *testing.T) {
	c := cpu(3, 1, 2)
	c.C, c.V, c.Z = true, true, true
	want := c
	want.R[15], want.N, want.Z = 1<<31, true, false
	if d, e := Loaded(c, 15, 1<<31); d != want || e != api.OK {
		t.Error(d, e)
	}
	want = c
	want.R[0], want.Z = 0, true
	if d, e := Loaded(c, 0, 0); d != want || e != api.OK {
		t.Error(d, e)
	}
	for _, r := range []int{-1, 16} {
		if d, e := Loaded(c, r, 1); d != (api.Cpu{}) || e != api.ErrArg {
			t.Error(r, d, e)
		}
	}
	want = c
	want.R[0] = 9
	if Answered(c, 9) != want {
		t.Error(Answered(c, 9))
	}
}
