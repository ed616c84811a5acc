package script

import (
	"fmt"
	"strings"
	"testing"

	"selfsame/api"
)

// P25.1, P25.4
func TestActs(t *testing.T) {
	long := strings.Repeat("x", 31)
	var sixteen []string
	for i := range 16 {
		sixteen = append(sixteen, fmt.Sprint("f", i))
	}
	for i, x := range []struct {
		a    api.Act
		text string
	}{
		{api.Act{Kind: api.ActPut, Name: "a.b", Bytes: []byte{0, 0xab, 255}}, "put a.b 00abff"},
		{api.Act{Kind: api.ActPut, Name: "a"}, "put a -"},
		{api.Act{Kind: api.ActAdd, Name: "a", Bytes: []byte("x := 1")}, "add a x := 1"},
		{api.Act{Kind: api.ActAdd, Name: "a", Bytes: []byte(" ~ ")}, "add a  ~ "},
		{api.Act{Kind: api.ActAdd, Name: "a"}, "add a "},
		{api.Act{Kind: api.ActAdd, Name: "a", Bytes: []byte(strings.Repeat("y", 200))}, "add a " + strings.Repeat("y", 200)},
		{api.Act{Kind: api.ActDrop, Name: long}, "drop " + long},
		{api.Act{Kind: api.ActBuild, Name: "a9"}, "build a9"},
		{api.Act{Kind: api.ActRun, Name: "Abcdefghijklmno", Memory: 1 << 40}, "run Abcdefghijklmno 1099511627776 0"},
		{api.Act{Kind: api.ActMean, Name: "M", Fuel: 99, Names: sixteen}, "mean M 99 " + strings.Join(sixteen, " ")},
		{api.Act{Kind: api.ActMean, Name: "M", Names: []string{"a.b"}}, "mean M 0 a.b"},
		{api.Act{Kind: api.ActOwn}, "own"},
	} {
		s, e := ActText(x.a)
		if s != x.text || e != api.OK || !MayAct(x.a) {
			t.Error(i, s, e)
		}
		a, e := ActOf(x.text)
		if e != api.OK || !Same(api.Script{Acts: []api.Act{a}}, api.Script{Acts: []api.Act{x.a}}) {
			t.Error(i, a, e)
		}
	}
	for i, a := range []api.Act{
		{}, {Kind: 8}, {Kind: -1}, {Kind: api.ActPut}, {Kind: api.ActPut, Name: "9"}, {Kind: api.ActPut, Name: "a", Bytes: make([]byte, api.MaxTold+1)}, {Kind: api.ActPut, Name: "a", Fuel: 1}, {Kind: api.ActPut, Name: "a", Memory: 1}, {Kind: api.ActPut, Name: "a", Names: []string{"a"}},
		{Kind: api.ActAdd, Name: "a", Bytes: []byte{31}}, {Kind: api.ActAdd, Name: "a", Bytes: []byte{127}}, {Kind: api.ActAdd, Name: "a", Bytes: []byte(strings.Repeat("y", 201))}, {Kind: api.ActDrop, Name: "a", Bytes: []byte{1}}, {Kind: api.ActBuild, Name: long + "x"}, {Kind: api.ActBuild}, {Kind: api.ActOwn, Name: "a"},
		{Kind: api.ActRun, Name: "a.b"}, {Kind: api.ActRun, Name: "Abcdefghijklmnop"}, {Kind: api.ActRun, Name: "A", Memory: -1}, {Kind: api.ActRun, Name: "A", Memory: 1<<40 + 1}, {Kind: api.ActRun, Name: "A", Fuel: 1<<40 + 1}, {Kind: api.ActRun, Name: "A", Fuel: -1}, {Kind: api.ActRun, Name: "A", Names: []string{"a"}},
		{Kind: api.ActMean, Name: "A"}, {Kind: api.ActMean, Name: "A", Names: []string{""}}, {Kind: api.ActMean, Name: "A", Names: append([]string{"a"}, sixteen...)}, {Kind: api.ActMean, Name: "A", Names: []string{"a"}, Memory: 1}, {Kind: api.ActMean, Name: "A.", Names: []string{"a"}},
	} {
		if s, e := ActText(a); s != "" || e != api.ErrArg || MayAct(a) {
			t.Error(i, s, e)
		}
	}
	for _, s := range []string{"", " ", "put", "put a", "put a ", "put a 0", "put a 0A", "put a 0g", "put a 00 ", "put  a 00", "put a -00", "put 9 -", " put a -", "add", "add a", "add a \x1f", "add a é", "add 9 x", "drop", "drop a b", "drop a ", "Drop a", "build", "run A 1", "run A 1 2 3", "run A 01 2", "run A -1 2", "run A +1 2", "run A 1 1099511627777", "run A.b 1 2", "run A 1 ", "mean A 1", "mean A 1 ", "mean A 1 a  b", "mean A 1 a ", "mean A x a", "own ", "own a", "nothing", "capacity 5"} {
		if a, e := ActOf(s); a.Kind != 0 || e != api.ErrBytes {
			t.Errorf("%q %v %v", s, a, e)
		}
	}
	names := Names()
	for range 2 {
		told := ""
		for kind, name := range names {
			told += fmt.Sprint(int(kind), name, " ")
		}
		if told != "1put 2add 3drop 4build 5run 6mean 7own " {
			t.Error(told)
		}
	}
	for kind := range names {
		if kind > 1 {
			t.Error(kind)
		}
		break
	}
}

// P25.2
func TestEndText(t *testing.T) {
	for want, e := range map[string]api.End{
		"halt -1 9": {Stop: api.Stop{Kind: api.StopHalt, Code: 1<<32 - 1}, Steps: 9}, "trap 6 2": {Stop: api.Stop{Kind: api.StopTrap, Code: 6}, Steps: 2}, "fuel 3": {Fuel: true, Steps: 3}, "stack 1": {Stop: api.Stop{Kind: api.StopStack}, Steps: 1}, "heap 0": {Stop: api.Stop{Kind: api.StopHeap}}, "store 0": {Stop: api.Stop{Kind: api.StopStore, Code: 5}}, "memory 0": {Stop: api.Stop{Kind: api.StopMemory}}, "word 0": {Stop: api.Stop{Kind: api.StopWord}}, "none 7": {Steps: 7}, "none 8": {Stop: api.Stop{Kind: 99}, Steps: 8},
	} {
		if got := EndText(e); got != want {
			t.Error(got, want)
		}
	}
}

// P25.3, P25.4
func TestScripts(t *testing.T) {
	own := api.Act{Kind: api.ActOwn}
	s := api.Script{Capacity: 99, Acts: []api.Act{{Kind: api.ActAdd, Name: "a"}, own, {Kind: api.ActPut, Name: "a", Bytes: []byte{1}}}}
	text, e := Text(s)
	if text != "capacity 99\nadd a \nown\nput a 01\n" || e != api.OK {
		t.Errorf("%q %v", text, e)
	}
	if p, line, e := Parse(text); !Same(p, s) || line != 0 || e != api.OK {
		t.Error(p, line, e)
	}
	full := api.Script{Capacity: api.MaxStore, Acts: make([]api.Act, api.MaxActs)}
	for i := range full.Acts {
		full.Acts[i] = own
	}
	text, e = Text(full)
	if p, line, f := Parse(text); !Same(p, full) || line != 0 || e != api.OK || f != api.OK {
		t.Error(line, e, f)
	}
	if _, line, e := Parse(text + "own\n"); line != api.MaxActs+1 || e != api.ErrBytes {
		t.Error(line, e)
	}
	full.Acts = append(full.Acts, own)
	if s, e := Text(full); s != "" || e != api.ErrLong {
		t.Error(e)
	}
	full.Acts[4096].Name = "x"
	if _, e := Text(full); e != api.ErrArg {
		t.Error(e)
	}
	great := api.Script{}
	for range 33 {
		great.Acts = append(great.Acts, api.Act{Kind: api.ActPut, Name: "a", Bytes: make([]byte, api.MaxTold)})
	}
	if s, e := Text(great); s != "" || e != api.ErrLong {
		t.Error(e)
	}
	great.Acts = great.Acts[:31]
	if _, e := Text(great); e != api.OK {
		t.Error(e)
	}
	for _, n := range []int{-1, api.MaxStore + 1} {
		if _, e := Text(api.Script{Capacity: n}); e != api.ErrArg {
			t.Error(e)
		}
	}
	for text, want := range map[string]int{"": 0, "\n": 0, "capacity 5": 0, "capacity 05\n": 0, "capacity 67108865\n": 0, "capacity -1\n": 0, "capacity\n": 0, "own\n": 0, "capacity 5 \n": 0, "capacity 5\nown": 1, "capacity 5\n\n": 1, "capacity 5\nown\ncapacity 5\n": 2, "capacity 5\nown\nown\nx\nown": 3, "capacity 5\r\n": 0} {
		if s, line, e := Parse(text); line != want || e != api.ErrBytes || s.Acts != nil || s.Capacity != 0 {
			t.Errorf("%q %d %v", text, line, e)
		}
	}
	if _, line, e := Parse(strings.Repeat("x", api.MaxScript)); line != 0 || e != api.ErrBytes {
		t.Error(line, e)
	}
	if _, line, e := Parse(strings.Repeat("x", api.MaxScript+1)); line != 0 || e != api.ErrLong {
		t.Error(line, e)
	}
	for i, change := range []func(*api.Script){func(s *api.Script) { s.Capacity++ }, func(s *api.Script) { s.Acts = s.Acts[1:] }, func(s *api.Script) { s.Acts[0].Kind++ }, func(s *api.Script) { s.Acts[0].Name = "b" }, func(s *api.Script) { s.Acts[0].Bytes = []byte{1} }, func(s *api.Script) { s.Acts[0].Names = []string{"a"} }, func(s *api.Script) { s.Acts[0].Fuel++ }, func(s *api.Script) { s.Acts[0].Memory++ }} {
		a := api.Script{Capacity: 9, Acts: []api.Act{own, own}}
		b := api.Script{Capacity: 9, Acts: []api.Act{own, own}}
		if !Same(a, b) {
			t.Error("not the same")
		}
		if change(&b); Same(a, b) || Same(b, a) {
			t.Error(i)
		}
	}
}
