package scan

import (
	"fmt"
	"strings"
	"testing"

	"selfsame/api"
)

// told is a text of all symbols, and of the error.
func told(source string) string {
	s := New([]byte(source))
	var l []string
	for range len(source) + 1 {
		x := s.Symbol()
		if x.Sym == api.SymEnd {
			break
		}
		text := fmt.Sprint(x.Sym, "@", x.Pos)
		switch x.Sym {
		case api.SymName:
			text += ":" + s.Name(x.Id)
		case api.SymNumber, api.SymChar:
			text += fmt.Sprint(":", x.Val)
		case api.SymString:
			text += fmt.Sprintf(":%s:%d", x.Text, x.Val)
		}
		l = append(l, text)
		s.Get()
	}
	code, pos := s.Err()
	if end := s.Symbol(); code != 0 {
		l = append(l, fmt.Sprint("error ", code, "@", pos))
		if end != (api.Symbol{Pos: pos}) {
			l = append(l, "no end")
		}
	} else if end != (api.Symbol{Pos: len(source)}) {
		l = append(l, "no end")
	}
	return strings.Join(l, " ")
}

// P11.1, P11.2, P11.4
func TestSymbols(t *testing.T) {
	long := strings.Repeat("a", 15)
	text := strings.Repeat("x", 63)
	for source, want := range map[string]string{
		"":                     "",
		"x:=0FFH;":             "25@0:x 24@1 26@3:255 22@7",
		"\x00 \t\n\r x":        "25@6:x",
		"=#<<=>>=+-*/.^&~()[]": "1@0 2@1 3@2 4@3 5@5 6@6 7@8 8@9 9@10 10@11 11@12 12@13 13@14 14@15 15@16 16@17 17@18 18@19",
		"{},;::=: =< =":        "19@0 20@1 21@2 22@3 23@4 24@5 23@7 1@9 3@10 1@12",
		"ARRAY BEGIN CONST DIV DO ELSE ELSIF END FALSE IF": "30@0 31@6 32@12 33@18 34@22 35@25 36@30 37@36 38@40 39@46",
		"IMPORT IN MOD MODULE NIL OF OR POINTER PROCEDURE": "40@0 41@7 42@10 43@14 44@21 45@25 46@28 47@31 48@39",
		"RECORD REPEAT RETURN THEN TO TRUE TYPE UNTIL VAR": "49@0 50@7 51@14 52@21 53@26 54@29 55@34 56@39 57@45",
		"WHILE while ENDx x9Y":                             "58@0 25@6:while 25@12:ENDx 25@17:x9Y",
		long:                                               "25@0:" + long,
		" " + long + "a":                                   "error 3@1",
		"0 007 2147483647 1a":                              "26@0:0 26@2:7 26@6:2147483647 26@17:1 25@18:a",
		"0H 0AH 0FFFFFFFFH 80000000H 000000000000001H":     "26@0:0 26@3:10 26@7:-1 26@18:-2147483648 26@28:1",
		"0X 41X 0FFX 0000000000FFX":                        "27@0:0 27@3:65 27@7:255 27@12:255",
		"2147483648":                                       "error 2@0",
		"x 9999999999999999999999":                         "25@0:x error 2@2",
		"1FFFFFFFFH":                                       "error 2@0",
		"100X":                                             "error 2@0",
		"100000000X":                                       "error 2@0",
		"0FF":                                              "error 2@0",
		"10DIV":                                            "error 2@0",
		"5MOD 5":                                           "26@0:5 42@1 26@5:5",
		"1..2":                                             "26@0:1 11@1 11@2 26@3:2",
		`"" "a" "ab" " ~" "(*"`:                            `28@0::0 28@3:a:97 28@7:ab:0 28@12: ~:0 28@17:(*:0`,
		`"` + text + `"`:                                   "28@0:" + text + ":0",
		`x"` + text + `x"`:                                 "25@0:x error 4@1",
		`"ab`:                                              "error 4@0",
		"\"a\nb\"":                                         "error 4@0",
		"\"a\x7f\"":                                        "error 4@0",
		"\"a\x80\"":                                        "error 4@0",
		"a(* b (* c *) d *)e":                              "25@0:a 25@18:e",
		"a(**)e(***)f(* * ) *)g":                           "25@0:a 25@5:e 25@11:f 25@21:g",
		"a(*(*)*)*) b":                                     "25@0:a 25@11:b",
		"a (* b (* c *)":                                   "25@0:a error 5@2",
		"a (*":                                             "25@0:a error 5@2",
		"a (*)":                                            "25@0:a error 5@2",
		"*)":                                               "9@0 16@1",
		"a ! b":                                            "25@0:a error 1@2",
		"é":                                                "error 1@0",
		"a\x7f":                                            "25@0:a error 1@1",
		"_":                                                "error 1@0",
		"'":                                                "error 1@0",
		"INTEGER WHILE DELETE":                             "25@0:INTEGER 58@8 25@14:DELETE",
		"a$":                                               "25@0:a error 1@1",
		strings.Repeat("x", 14) + " y":                     "25@0:" + strings.Repeat("x", 14) + " 25@15:y",
	} {
		if got := told(source); got != want {
			t.Errorf("%q: %s, not %s", source, got, want)
		}
	}
	if got := told(strings.Repeat(" ", api.MaxSource+1)); got != "error 60@0" {
		t.Error(got)
	}
	if got := told(strings.Repeat(" ", api.MaxSource)); got != "" {
		t.Error(got)
	}
}

// P11.2
func TestMark(t *testing.T) {
	s := New([]byte("ab cd ef"))
	s.Get()
	s.Mark(0)
	if c, p := s.Err(); c != 0 || p != 0 || s.Symbol().Sym != api.SymName {
		t.Error(c, p)
	}
	s.Mark(17)
	s.Mark(18)
	s.MarkAt(19, 0)
	s.Get()
	if c, p := s.Err(); c != 17 || p != 3 || s.Symbol() != (api.Symbol{Pos: 3}) {
		t.Error(c, p, s.Symbol())
	}
	s = New([]byte("ab cd ef"))
	s.MarkAt(70, 5)
	if c, p := s.Err(); c != 70 || p != 5 || s.Symbol() != (api.Symbol{Pos: 5}) {
		t.Error(c, p, s.Symbol())
	}
}

// P11.3
func TestNames(t *testing.T) {
	s := New([]byte("x y x z"))
	if s.Names() != 58 || s.Name(0) != "ARRAY" || s.Name(28) != "WHILE" || s.Name(29) != "INTEGER" || s.Name(33) != "SET" || s.Name(34) != "ABS" || s.Name(40) != "LEN" || s.Name(46) != "DEC" || s.Name(56) != "DELETE" || s.Name(57) != "x" || s.Name(58) != "" || s.Name(-1) != "" {
		t.Error(s.Names(), s.Name(57))
	}
	if s.Intern("x") != 57 || s.Intern("q") != 58 || s.Intern("q") != 58 || s.Intern("BEGIN") != 1 || s.Intern("DELETE") != 56 {
		t.Error(s.Intern("q"))
	}
	for _, name := range []string{"", "9", "a b", "é", "a.b", "+", strings.Repeat("a", 16)} {
		if s.Intern(name) != -1 {
			t.Error(name)
		}
	}
	if c, _ := s.Err(); c != 0 {
		t.Error(c)
	}
	s.Get()
	if x := s.Symbol(); x.Id != 59 || s.Name(59) != "y" {
		t.Error(x)
	}
	for s.Names() < api.MaxNames {
		s.Intern(fmt.Sprint("n", s.Names()))
	}
	s.Get()
	if x := s.Symbol(); x.Id != 57 {
		t.Error(x)
	}
	s.Get()
	if c, p := s.Err(); c != 62 || p != 6 || s.Names() != api.MaxNames {
		t.Error(c, p)
	}
	s = New([]byte("a b"))
	for s.Names() < api.MaxNames {
		s.Intern(fmt.Sprint("n", s.Names()))
	}
	if s.Intern("a") != 57 || s.Intern("more") != -1 {
		t.Error("Intern")
	}
	if c, p := s.Err(); c != 62 || p != 0 {
		t.Error(c, p)
	}
}

func TestNil(t *testing.T) {
	for _, s := range []*Scanner{nil, {}} {
		s.Get()
		s.Mark(1)
		s.MarkAt(1, 1)
		c, p := s.Err()
		if s.Symbol() != (api.Symbol{}) || c != 0 || p != 0 || s.Name(0) != "" || s.Names() != 0 || s.Intern("a") != -1 {
			t.Error(c, p)
		}
	}
	b := []byte("ab")
	s := New(b)
	b[0], b[1] = '1', '2'
	if s.Name(s.Symbol().Id) != "ab" {
		t.Error("kept")
	}
}
