package samples

import (
	"strconv"
	"strings"
)

// Limit is a source at a limit (Code 0), or beyond it.
type Limit struct {
	Source string
	Code   int
}

// many joins texts made of numbers.
func many(n int, text string) string {
	var b strings.Builder
	for i := range n {
		b.WriteString(strings.ReplaceAll(text, "#", strconv.Itoa(i)))
	}
	return b.String()
}

func deep(n int) string {
	return "MODULE M; VAR i: INTEGER; BEGIN i := " + strings.Repeat("(", n) + "1" + strings.Repeat(")", n) + " END M."
}

// Limits are sources at limits, and beyond.
func Limits() []Limit {
	return append(append(depths(), counts()...), allFields(20, 0), allFields(21, 73))
}

// allFields is a module of records of 100 fields.
func allFields(records, code int) Limit {
	s := "MODULE M; TYPE "
	for i := range records {
		s += "T" + strconv.Itoa(i) + " = RECORD a" + many(99, ",a#x") + ": CHAR END; "
	}
	return Limit{s + "END M.", code}
}

func depths() []Limit {
	return []Limit{
		{"MODULE M; END M." + strings.Repeat(" ", 65535-16), 0},
		{"MODULE M; END M." + strings.Repeat(" ", 65536-16), 60},
		{deep(22), 0}, {deep(23), 61}, {deep(30), 61}, {deep(5000), 61},
		{"MODULE M; VAR b: BOOLEAN; BEGIN b := " + strings.Repeat("~", 5000) + "b END M.", 0},
		{"MODULE M; BEGIN " + strings.Repeat("WHILE TRUE DO ", 23) + strings.Repeat("END ", 23) + " END M.", 0},
		{"MODULE M; BEGIN " + strings.Repeat("WHILE TRUE DO ", 24) + strings.Repeat("END ", 24) + " END M.", 61},
		{"MODULE M; TYPE T = " + strings.Repeat("RECORD a: ", 23) + "CHAR" + strings.Repeat(" END", 23) + "; END M.", 0},
		{"MODULE M; TYPE T = " + strings.Repeat("RECORD a: ", 24) + "CHAR" + strings.Repeat(" END", 24) + "; END M.", 61},
		{"MODULE M; " + strings.Repeat("PROCEDURE P; ", 23) + strings.Repeat("BEGIN END P; ", 23) + "END M.", 0},
		{"MODULE M; " + strings.Repeat("PROCEDURE P; ", 25) + strings.Repeat("BEGIN END P; ", 25) + "END M.", 61},
	}
}

func counts() []Limit {
	return []Limit{
		{"MODULE M; VAR " + many(700-57-2, "a#, ") + "z: CHAR; END M.", 0},
		{"MODULE M; VAR " + many(700-57-1, "a#, ") + "z: CHAR; END M.", 62},
		{"MODULE M; " + many(300, "PROCEDURE P#(x, y: CHAR); END P#; ") + "END M.", 0},
		{"MODULE M; " + many(300, "PROCEDURE P#(x, y: CHAR); END P#; ") + "VAR", 10},
		{"MODULE M; " + many(301, "PROCEDURE P#(x, y: CHAR); END P#; ") + "END M.", 63},
		{"MODULE M; TYPE " + many(194, "T# = RECORD END; ") + "END M.", 0},
		{"MODULE M; TYPE " + many(195, "T# = RECORD END; ") + "END M.", 64},
		{"MODULE M; PROCEDURE P(a, b, c, d, e, f, g, h, i, j, k, l: INTEGER); BEGIN P(1, 2, 3, 4, 5, 6, 7, 8, 9, 10, 11, 12) END P; END M.", 0},
		{"MODULE M; PROCEDURE P(a, b, c, d, e, f, g, h, i, j, k, l, m: INTEGER); END P; END M.", 65},
		{"MODULE M; PROCEDURE P(a, b, c, d, e, f, g: ARRAY OF CHAR); END P; END M.", 65},
		{"MODULE M; VAR i: INTEGER; BEGIN i := " + strings.Repeat("i + i * (", 12) + "i" + strings.Repeat(")", 12) + " END M.", 65},
		{"MODULE M; VAR i: INTEGER; BEGIN " + many(2700, "i := i; ") + "END M.", 0},
		{"MODULE M; VAR i: INTEGER; BEGIN " + many(2800, "i := i; ") + "END M.", 66},
		{"MODULE M; VAR a: ARRAY 65535 OF INTEGER; b: INTEGER; END M.", 0},
		{"MODULE M; VAR a: ARRAY 65535 OF INTEGER; b, c: INTEGER; END M.", 67},
		{"MODULE M; VAR a: ARRAY 65535 OF INTEGER; b: INTEGER; BEGIN b := OLD(\"\") END M.", 67},
		{"MODULE M; VAR a: ARRAY 65535 OF INTEGER; b: INTEGER; PROCEDURE P; VAR a: ARRAY 8192 OF INTEGER; END P; END M.", 0},
		{"MODULE M; PROCEDURE P; VAR a: ARRAY 8192 OF INTEGER; b: CHAR; END P; END M.", 68},
		{"MODULE M; " + many(200, "PROCEDURE P#*; END P#; ") + "END M.", 0},
		{"MODULE M; " + many(201, "PROCEDURE P#*; END P#; ") + "END M.", 70},
		{"MODULE M; VAR i: INTEGER; BEGIN " + many(10, "DELETE(\""+strings.Repeat("x", 63)+"\"); ") + "END M.", 0},
		{"MODULE M; BEGIN " + many(128, "DELETE(\""+strings.Repeat("x", 63)+"\"); ") + "END M.", 0},
		{"MODULE M; BEGIN " + many(128, "DELETE(\""+strings.Repeat("x", 63)+"\"); ") + "DELETE(\"\") END M.", 72},
		{"MODULE M; TYPE T = RECORD " + many(100, "a#: CHAR; ") + "END; END M.", 0},
		{"MODULE M; TYPE T = RECORD " + many(101, "a#: CHAR; ") + "END; END M.", 73},
	}
}
