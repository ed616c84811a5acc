package isa

import (
	"testing"

	"selfsame/api"
)

// P3.1, P3.2: words and texts, of the chapter and its forms
func TestForms(t *testing.T) {
	for _, x := range []struct {
		i    api.Ins
		w    uint32
		text string
	}{
		{api.Ins{Form: api.FormIm, A: 1, B: 2, Op: api.OpAdd, Im: 5}, 0x41280005, "ADD R1 R2 5"},
		{api.Ins{Form: api.FormJump, V: true, Cond: 7, Off: -1}, 0xf7ffffff, "BL T -1"},
		{api.Ins{Form: api.FormSys, Cond: 7, N: 16}, 0xd700010c, "SYS T 16"},
		{api.Ins{Form: api.FormSys, Cond: 1, N: 15}, 0xd10000fc, "TRAP EQ 15"},
		{api.Ins{Form: api.FormTo, Cond: 7, C: 15}, 0xc700000f, "B T R15"},
		{api.Ins{Form: api.FormTo, Cond: 15, C: 12}, 0xcf00000c, "B F R12"},
		{api.Ins{Form: api.FormTo, V: true, Cond: 0, C: 3}, 0xd0000003, "BL MI R3"},
		{api.Ins{Form: api.FormReg, A: 15, B: 14, Op: api.OpDiv, C: 13}, 0x0feb000d, "DIV R15 R14 R13"},
		{api.Ins{Form: api.FormReg, U: true, A: 1, B: 2, Op: api.OpSub, C: 3}, 0x21290003, "SUB' R1 R2 R3"},
		{api.Ins{Form: api.FormReg, U: true, A: 4}, 0x24000000, "MOV R4 H"},
		{api.Ins{Form: api.FormReg, U: true, A: 4, C: 1}, 0x24000001, "MOV R4 F"},
		{api.Ins{Form: api.FormReg, A: 4, C: 1}, 0x04000001, "MOV R4 R1"},
		{api.Ins{Form: api.FormIm, U: true, A: 1, Im: 5}, 0x61000005, "MOV'' R1 5"},
		{api.Ins{Form: api.FormIm, V: true, A: 1, Im: 0xfffb}, 0x5100fffb, "MOV R1 -5"},
		{api.Ins{Form: api.FormIm, A: 1, Im: 0xfffb}, 0x4100fffb, "MOV R1 65531"},
		{api.Ins{Form: api.FormIm, U: true, V: true, A: 1, B: 1, Op: api.OpMul, Im: 1}, 0x711a0001, "MUL' R1 R1 -65535"},
		{api.Ins{Form: api.FormLoad, A: 0, B: 14, Off: -4}, 0x80effffc, "LDW R0 R14 -4"},
		{api.Ins{Form: api.FormLoad, V: true, A: 3, B: 2, Off: 1<<19 - 1}, 0x9327ffff, "LDB R3 R2 524287"},
		{api.Ins{Form: api.FormStore, A: 3, B: 2, Off: -1 << 19}, 0xa3280000, "STW R3 R2 -524288"},
		{api.Ins{Form: api.FormStore, V: true, A: 3, B: 2}, 0xb3200000, "STB R3 R2 0"},
		{api.Ins{Form: api.FormJump, Cond: 9, Off: 1<<23 - 1}, 0xe97fffff, "B NE 8388607"},
	} {
		if !May(x.i) {
			t.Error("May", x)
		}
		if w, e := Word(x.i); w != x.w || e != api.OK {
			t.Errorf("Word %v: %x %v", x, w, e)
		}
		if i, e := Of(x.w); i != x.i || e != api.OK {
			t.Error("Of", x, i, e)
		}
		if s, e := Text(x.i); s != x.text || e != api.OK {
			t.Error("Text", x, s, e)
		}
	}
}

// P3.1: what may not be
func TestMayNot(t *testing.T) {
	for _, i := range []api.Ins{
		{Form: -1}, {Form: 7}, {A: 16}, {A: -1}, {B: 1}, {Op: 1, B: 16}, {C: 16}, {Op: 12}, {Op: -1}, {V: true}, {Im: 1}, {Off: 1}, {Cond: 1}, {N: 1},
		{U: true, C: 2}, {U: true, Op: api.OpLsl}, {U: true, Op: api.OpDiv},
		{Form: api.FormIm, C: 1}, {Form: api.FormIm, Im: -1}, {Form: api.FormIm, Im: 65536}, {Form: api.FormIm, U: true, V: true}, {Form: api.FormIm, Op: api.OpXor, U: true},
		{Form: api.FormLoad, U: true}, {Form: api.FormLoad, C: 1}, {Form: api.FormLoad, Off: 1 << 19}, {Form: api.FormStore, Off: -1<<19 - 1}, {Form: api.FormStore, Op: 1},
		{Form: api.FormJump, Off: 1 << 23}, {Form: api.FormJump, Off: -1<<23 - 1}, {Form: api.FormJump, Cond: 16}, {Form: api.FormJump, C: 1}, {Form: api.FormJump, A: 1},
		{Form: api.FormTo, V: true, C: 12}, {Form: api.FormTo, Off: 1}, {Form: api.FormTo, C: -1}, {Form: api.FormTo, N: 1},
		{Form: api.FormSys, V: true}, {Form: api.FormSys, N: 256}, {Form: api.FormSys, N: -1}, {Form: api.FormSys, C: 12},
	} {
		if May(i) {
			t.Error("May", i)
		}
		if w, e := Word(i); w != 0 || e != api.ErrArg {
			t.Error("Word", i, w, e)
		}
		if s, e := Text(i); s != "" || e != api.ErrArg {
			t.Error("Text", i, s, e)
		}
	}
	for _, w := range []uint32{0x10000000, 0x00100000, 0x000c0000, 0x000f0000, 0x20010000, 0x20000002, 0x00000010, 0x00008000, 0x70000000, 0x40100000, 0x400c0000, 0x60070000, 0xc0000010, 0xc0800000, 0xd000100c, 0xd080000c} {
		if i, e := Of(w); i != (api.Ins{}) || e != api.ErrBytes {
			t.Errorf("Of %x: %v %v", w, i, e)
		}
	}
}

// P3.3, over many words
func TestRound(t *testing.T) {
	texts := map[string]uint32{}
	w := uint32(1)
	for n := range 300000 {
		w = w*1664525 + 1013904223
		x := w
		if n%3 == 0 {
			x &^= 0x0000fff0 // so that forms with noughts come up, too
		}
		if n%5 == 0 {
			x &= 0xff00fff
		}
		i, e := Of(x)
		if e != api.OK {
			continue
		}
		if y, e := Word(i); y != x || e != api.OK || !May(i) {
			t.Fatalf("%x: %v %x %v", x, i, y, e)
		}
		s, _ := Text(i)
		if y, ok := texts[s]; ok && y != x {
			t.Fatalf("%s: %x %x", s, x, y)
		}
		texts[s] = x
	}
	if len(texts) < 1000 {
		t.Error(len(texts))
	}
}

// P3.2
func TestNames(t *testing.T) {
	conds, ops := "", ""
	for n := -1; n < 18; n++ {
		conds += Cond(n) + ","
		ops += Op(n) + ","
	}
	if conds != ",MI,EQ,CS,VS,LS,LT,LE,T,PL,NE,CC,VC,HI,GE,GT,F,,," || ops != ",MOV,LSL,ASR,ROR,AND,ANN,IOR,XOR,ADD,SUB,MUL,DIV,,,,,,," {
		t.Error(conds, ops)
	}
	for i, x := range map[api.Ins]uint32{{Form: api.FormIm, Im: 65535}: 65535, {Form: api.FormIm, V: true, Im: 1}: 0xffff0001, {Form: api.FormIm, U: true, Im: 3}: 3 << 16, {Form: api.FormIm, U: true, Op: api.OpAdd, V: true, Im: 3}: 0xffff0003, {Form: api.FormLoad, Off: 9}: 0, {C: 3}: 0} {
		if Value(i) != x {
			t.Error(i, Value(i))
		}
	}
}
