package run

import (
	"testing"

	"selfsame/api"
	"selfsame/isa"
	"selfsame/link"
	"selfsame/machine"
	"selfsame/object"
	"selfsame/store"
)

// files has modules R (that returns), L (that loops), V (that stores 7 into its second variable, and halts with 3).
func files(t *testing.T) *store.Store {
	t.Helper()
	s, _ := store.New(1 << 16)
	put := func(name string, vars int, fixups []api.Fixup, code ...api.Ins) {
		o := api.Object{Name: name, Vars: vars, Entries: []int{0}, Fixups: fixups}
		for _, i := range code {
			w, e := isa.Word(i)
			if e != api.OK {
				t.Fatal(i, e)
			}
			o.Code = append(o.Code, w)
		}
		b, _ := object.Bytes(o)
		s.Put(object.File(name), b)
	}
	put("R", 0, nil, api.Ins{Form: api.FormTo, Cond: 7, C: 15})
	put("L", 0, nil, api.Ins{Form: api.FormJump, Cond: 7, Off: -1})
	put("V", 8, []api.Fixup{{At: 0}}, api.Ins{Form: api.FormIm, U: true, A: 1}, api.Ins{Form: api.FormIm, A: 1, B: 1, Op: api.OpIor}, api.Ins{Form: api.FormIm, A: 0, Im: 7}, api.Ins{Form: api.FormStore, A: 0, B: 1, Off: 4}, api.Ins{Form: api.FormIm, A: 0, Im: 3}, api.Ins{Form: api.FormSys, Cond: 7, N: 16})
	s.Put("B.o", []byte("O1"))
	return s
}

// P10.1: the chapter's examples, and errors
func TestGo(t *testing.T) {
	for _, x := range []struct {
		j    api.Job
		want api.End
		e    api.Errno
	}{
		{api.Job{Module: "R", Memory: 128, Fuel: 99}, api.End{Stop: api.Stop{Kind: api.StopHalt}, Steps: 4}, 0},
		{api.Job{Module: "R", Memory: 128, Fuel: 4}, api.End{Stop: api.Stop{Kind: api.StopHalt}, Steps: 4}, 0},
		{api.Job{Module: "R", Memory: 128, Fuel: 3}, api.End{Steps: 3, Fuel: true}, 0},
		{api.Job{Module: "R", Memory: 128, Fuel: 2}, api.End{Steps: 2, Fuel: true}, 0},
		{api.Job{Module: "R", Memory: 128}, api.End{Fuel: true}, 0},
		{api.Job{Module: "L", Memory: 128, Fuel: 1000}, api.End{Steps: 1000, Fuel: true}, 0},
		{api.Job{Module: "V", Memory: 128, Fuel: 1 << 40}, api.End{Stop: api.Stop{Kind: api.StopHalt, Code: 3}, Steps: 7}, 0},
		{api.Job{Module: "", Memory: 130, Fuel: 9}, api.End{}, api.ErrArg},
		{api.Job{Module: "N", Memory: 60, Fuel: 9}, api.End{}, api.ErrArg},
		{api.Job{Module: "N", Memory: api.MaxMemory + 4, Fuel: 9}, api.End{}, api.ErrArg},
		{api.Job{Module: "N", Memory: 64, Fuel: -1}, api.End{}, api.ErrArg},
		{api.Job{Module: "N", Memory: 64, Fuel: 1<<40 + 1}, api.End{}, api.ErrArg},
		{api.Job{Module: "", Memory: 64, Fuel: 9}, api.End{}, api.ErrArg},
		{api.Job{Module: "N", Memory: 64, Fuel: 9}, api.End{}, api.ErrNone},
		{api.Job{Module: "B", Memory: 64, Fuel: 9}, api.End{}, api.ErrBytes},
		{api.Job{Module: "R", Memory: 76, Fuel: 9}, api.End{}, api.ErrMemory},
		{api.Job{Module: "R", Memory: 80, Fuel: 9}, api.End{Stop: api.Stop{Kind: api.StopHalt}, Steps: 4}, 0},
		{api.Job{Module: "R", Memory: api.MaxMemory, Fuel: 9}, api.End{Stop: api.Stop{Kind: api.StopHalt}, Steps: 4}, 0},
	} {
		if end, e := Go(files(t), x.j); end != x.want || e != x.e {
			t.Error(x, end, e)
		}
		if m, i, e := Ready(files(t), x.j); e != x.e || (m != nil) != (e == api.OK) || (len(i.Words) > 0) != (e == api.OK) {
			t.Error(x, e)
		}
	}
	for _, s := range []*store.Store{nil, {}} {
		if end, e := Go(s, api.Job{}); end != (api.End{}) || e != api.ErrNil {
			t.Error(end, e)
		}
		if m, _, e := Ready(s, api.Job{}); m != nil || e != api.ErrNil {
			t.Error(e)
		}
	}
}

// P10.1, P10.2, P10.3
func TestOn(t *testing.T) {
	s := files(t)
	m, i, _ := Ready(s, api.Job{Module: "V", Memory: 256, Fuel: 9})
	if j, _ := link.Link(s, "V"); !link.Same(i, j) || m.Store() != s || m.Cpu().PC != 0 {
		t.Error(i)
	}
	if w, e := Peek(m, i, "V", 4); w != 0 || e != api.OK {
		t.Error(w, e)
	}
	if end := On(m, -3); end != (api.End{Fuel: true}) {
		t.Error(end)
	}
	if end := On(m, 2); end != (api.End{Steps: 2, Fuel: true}) {
		t.Error(end)
	}
	if end := On(m, 99); end != (api.End{Stop: api.Stop{Kind: api.StopHalt, Code: 3}, Steps: 5}) {
		t.Error(end)
	}
	if end := On(m, 99); end != (api.End{Stop: api.Stop{Kind: api.StopHalt, Code: 3}}) {
		t.Error(end)
	}
	for _, x := range []struct {
		module string
		offset int
		want   uint32
		e      api.Errno
	}{{"V", 4, 7, 0}, {"V", 0, 0, 0}, {"R", 0, 0, api.ErrNone}, {"", -1, 0, api.ErrNone}, {"V", -4, 0, api.ErrArg}, {"V", 2, 0, api.ErrArg}, {"V", 256, 0, api.ErrArg}, {"V", 1 << 40, 0, api.ErrArg}, {"V", 1<<32 - 36, 0, api.ErrArg}, {"V", 216, 0, 0}, {"V", 220, 0, api.ErrArg}} {
		if w, e := Peek(m, i, x.module, x.offset); w != x.want || e != x.e {
			t.Error(x, w, e, i.Modules)
		}
	}
	for _, m := range []*machine.Machine{nil, {}} {
		if w, e := Peek(m, i, "R", -1); w != 0 || e != api.ErrNil {
			t.Error(e)
		}
		if On(m, 5) != (api.End{}) {
			t.Error(On(m, 5))
		}
	}
}
