// Package samples has sources that tests of several layers go over.
package samples

const head = "MODULE M; "

// common declares what the samples' statements speak of.
const common = "CONST n = 5; q = \"q\"; t = TRUE; e = {1, 3}; " +
	"TYPE R = RECORD a: INTEGER; c: CHAR END; P = POINTER TO R; A = ARRAY 4 OF CHAR; B = ARRAY 4 OF CHAR; " +
	"VAR i, j: INTEGER; b: BOOLEAN; c: CHAR; y: BYTE; s: SET; r: R; p: P; o: POINTER TO R; x: A; z: B; m: ARRAY 2 OF A; rr: RECORD a: INTEGER; c: CHAR END; " +
	"PROCEDURE No; END No; PROCEDURE One(k: INTEGER); END One; PROCEDURE F(): INTEGER; RETURN 1 END F; PROCEDURE G(k: BYTE; VAR l: INTEGER): CHAR; RETURN \"g\" END G; " +
	"PROCEDURE Rec(k: R; VAR l: R); END Rec; PROCEDURE Str(k: ARRAY OF CHAR); END Str; PROCEDURE VStr(VAR k: ARRAY OF CHAR); END VStr; PROCEDURE Fix(k: A); END Fix; " +
	"PROCEDURE Ptr(k: P; VAR l: P); END Ptr; PROCEDURE Ints(k: ARRAY OF INTEGER); END Ints; PROCEDURE Ch(k: CHAR); END Ch; PROCEDURE Boo(k: BOOLEAN; l: SET); END Boo; "

// statements lays statements behind the common declarations.
func statements(l []string) []string {
	var sources []string
	for _, s := range l {
		sources = append(sources, head+common+"BEGIN "+s+" END M.")
	}
	return sources
}

func declarations(l []string) []string {
	var sources []string
	for _, s := range l {
		sources = append(sources, head+s+" END M.")
	}
	return sources
}

// Right are sources that are modules, and have meaning.
func Right() []string {
	return append(append(whole(), declarations(rightDeclarations())...), statements(rightStatements())...)
}

// Wrong are sources that are none, or have no meaning.
func Wrong() []string {
	return append(append(declarations(wrongDeclarations()), statements(wrongStatements())...), wrongWhole()...)
}

func whole() []string {
	return []string{
		"MODULE M; END M.", "(* a (* b *) *) MODULE M;BEGIN END M. and more \"", "MODULE M;\nBEGIN\n;;\nEND\nM.", "MODULE M; BEGIN HALT(3) END M.",
		"MODULE Abcdefghijklmno; END Abcdefghijklmno.",
		"MODULE T; TYPE N* = POINTER TO D; D* = RECORD l, r: N; k: INTEGER END; END T.",
	}
}

func wrongWhole() []string {
	return []string{
		"", " ", "MODULE", "MODULE M", "MODULE M; END M", "MODULE M; END N.", "MODULE M END M.", "MODULE 5; END M.", "MODULE M; BEGIN END", "MODULE M; IMPORT M; END M.", "MODULE M; IMPORT; END M.", "MODULE M; IMPORT A B; END M.",
		"MODULE M; IMPORT NoSuch; END M.", "MODULE BEGIN; END BEGIN.", "MODULE M; (* END M.", "MODULE M; BEGIN END M;", "MODULE Abcdefghijklmnop; END Abcdefghijklmnop.", "BEGIN END M.", "MODULE M; END M\x7f.", "MODULE M; PROCEDURE P; END P END M.",
	}
}

func rightDeclarations() []string {
	return []string{
		"CONST a = 1; b = -a; c = a + 2 * 3 DIV 2 MOD 5; d = \"x\"; e = 41X; f = TRUE & ~FALSE OR FALSE; g = {1, a, 31} + {} - {2} * {3} / {4}; h = ORD(\"a\") + ORD(g) + ORD(f) + ORD(5); i = CHR(65); k = ABS(-5) + LSL(1, 4) + ASR(-1, 2); l = ODD(3); m = (1 + 2) * 3; n = +5;",
		"CONST a* = 0FFFFFFFFH; b* = 80000000H; c = 2147483647; d = 00000000000000000000FH; CONSTX = 1;",
		"CONST c = 5; d = c DIV 2; e = -7 DIV 2; f = -7 MOD 2;",
		"TYPE A = ARRAY 5 OF INTEGER; B = ARRAY 2 OF ARRAY 3 OF A; C = RECORD END; D = RECORD a, b: A; c: RECORD d: CHAR END; END; E = POINTER TO D; F = POINTER TO G; G = RECORD f: F; g: POINTER TO G END; H = INTEGER; I = POINTER TO RECORD END;",
		"TYPE R* = RECORD a, b: CHAR; c: INTEGER; d: BOOLEAN; e: BYTE; f: RECORD END; g: CHAR; h: SET END; VAR a*: CHAR; b*: R; c*: ARRAY 3 OF BYTE; d*: INTEGER; e*: POINTER TO R;",
		"TYPE A = RECORD ; ; a: INTEGER; ; b: CHAR; END; VAR x: A;",
		"TYPE A = ARRAY 65535 OF INTEGER; B = RECORD a: A; b: INTEGER END; C = ARRAY 65535 OF CHAR; D = ARRAY 4 OF C;",
		"TYPE P = POINTER TO R; R = RECORD END; PROCEDURE Q; TYPE S = POINTER TO R; T = POINTER TO Z; Z = RECORD s: S END; VAR z: Z; R: INTEGER; END Q; BEGIN",
		"VAR a, b*: INTEGER; c*: ARRAY 2 OF CHAR; d: POINTER TO RECORD a: INTEGER END; M: CHAR;",
		"VAR ABS: INTEGER; BEGIN ABS := 5;", "TYPE INTEGER = CHAR; VAR x: INTEGER; BEGIN x := \"a\"", "CONST TRUEX = 5; BEGIN HALT(TRUEX)",
		"PROCEDURE P(); END P; PROCEDURE Q*(a: INTEGER; VAR b, c: CHAR; d: ARRAY OF SET; VAR e: ARRAY OF BYTE): BOOLEAN; BEGIN b := c RETURN TRUE END Q; BEGIN P",
		"PROCEDURE P(n: INTEGER): INTEGER; VAR x: INTEGER; PROCEDURE I(n: INTEGER): INTEGER; CONST k = 3; BEGIN RETURN P(n) + k END I; BEGIN x := I(n) RETURN x END P;",
		"PROCEDURE P; VAR P: INTEGER; BEGIN P := 5 END P; BEGIN P", "CONST x = 1; PROCEDURE P; CONST x = x; y = x; TYPE x2 = ARRAY x OF CHAR; BEGIN END P;",
		"TYPE T = CHAR; PROCEDURE P(T: T); BEGIN T := \"x\" END P;", "TYPE T = CHAR; PROCEDURE P(a: T; T: INTEGER): CHAR; RETURN a END P;", "VAR x: CHAR; PROCEDURE P(x: INTEGER); BEGIN x := 5 END P;",
		"VAR g: INTEGER; PROCEDURE P; VAR l: INTEGER; PROCEDURE Q; VAR l: INTEGER; BEGIN l := g END Q; BEGIN l := g; Q END P;",
		"TYPE R = RECORD a: INTEGER END; PROCEDURE P; CONST c = 1; TYPE T = R; VAR v: T; PROCEDURE Q(VAR w: T); BEGIN w.a := c END Q; BEGIN Q(v) END P;",
		"PROCEDURE P(x: ARRAY OF INTEGER); VAR i: INTEGER; BEGIN i := x[i] + LEN(x); P(x) END P;", "TYPE A = ARRAY 3 OF INTEGER; PROCEDURE P(x: ARRAY OF A; VAR y: A); BEGIN y[0] := x[1][2]; P(x, y) END P;",
		"TYPE P = POINTER TO R; R = RECORD n: P; v: INTEGER END; PROCEDURE Q(p: P; r: R): P; BEGIN p.v := 5; r.n.v := p.n^.n.v; NEW(p.n) RETURN r.n END Q;",
	}
}

func wrongDeclarations() []string {
	return []string{
		"CONST a = 1; a = 2;", "CONST a = b;", "CONST a = a;", "CONST a = 1", "CONST a = NIL;", "CONST a = \"ab\";", "CONST a = \"\";", "CONST a = 1 = 1;", "CONST a = 1 IN {1};", "CONST a = LEN(\"a\");", "CONST a = 5 DIV 0;", "CONST a = 5 MOD (1 - 2);", "VAR v: INTEGER; BEGIN v := v DIV 0", "VAR v: INTEGER; CONST c = 1;", "CONST a = 1 + TRUE;", "CONST a := 1;", "CONST a = 2147483648;", "CONST a = 100000000H;", "CONST a = 100X;", "CONST a = 1 / 2;", "CONST a = {1} DIV {2};", "CONST a = -{1};", "CONST a = ~1;", "CONST a = {TRUE};", "CONST a = CHR(\"a\");", "CONST a = ORD(NIL);",
		"VAR v: INTEGER; PROCEDURE P; CONST a = {1, v}; END P;", "VAR v: INTEGER; PROCEDURE P; CONST a = {v, 1}; END P;", "VAR v: INTEGER; PROCEDURE P; CONST a = v + 1; END P;", "VAR v: INTEGER; PROCEDURE P; CONST a = LSL(1, v); END P;", "VAR v: BOOLEAN; PROCEDURE P; CONST a = FALSE & v; END P;", "VAR v: BOOLEAN; PROCEDURE P; CONST a = ~v; END P;",
		"VAR v: INTEGER; PROCEDURE P; CONST a = v; END P;", "CONST a = EOF(1);", "CONST a** = 1;", "CONST 1 = 1;", "CONST a = (1;", "CONST a = 1 2;", "CONST a = TRUE & (1 = 1);", "CONST a = F(); PROCEDURE F(): INTEGER; RETURN 1 END F;", "TYPE T = INTEGER; CONST a = 1;", "CONST a = FALSE & (1 DIV 0 = 1);",
		"TYPE A = ARRAY 0 OF CHAR;", "TYPE A = ARRAY -1 OF CHAR;", "TYPE A = ARRAY 65536 OF CHAR;", "TYPE A = ARRAY \"a\" OF CHAR;", "TYPE A = ARRAY 5 CHAR;", "VAR n: INTEGER; TYPE A = CHAR;", "TYPE A = ARRAY OF CHAR;", "VAR a: ARRAY OF CHAR;", "TYPE A = ARRAY TRUE OF CHAR;", "TYPE A = ARRAY 65535 OF INTEGER; B = ARRAY 2 OF A;", "TYPE A = ARRAY 65535 OF INTEGER; B = RECORD a: A; b, c: INTEGER END;", "TYPE A = ARRAY 5 OF A;", "TYPE A = RECORD a: A END;",
		"TYPE R = RECORD a: INTEGER; a: CHAR END;", "TYPE R = RECORD a, a: CHAR END;", "TYPE R = RECORD a* : INTEGER END;", "TYPE R = RECORD a INTEGER END;", "TYPE R = RECORD a: INTEGER b: CHAR END;", "TYPE P = POINTER TO INTEGER;", "TYPE P = POINTER TO Q;", "TYPE P = POINTER TO Q; Q = INTEGER;", "TYPE P = POINTER TO P;", "TYPE P = POINTER TO ARRAY 3 OF CHAR;", "VAR p: POINTER TO R; TYPE R = RECORD END;", "VAR p: POINTER TO R;", "TYPE P = POINTER TO R; VAR R: RECORD END;", "TYPE P = POINTER R;", "CONST R = 1; TYPE P = POINTER TO R; T = RECORD END;",
		"TYPE P = POINTER TO R; R = RECORD END; PROCEDURE Q; VAR x: POINTER TO Z; TYPE Z = RECORD END; END Q;", "TYPE R = INTEGER; PROCEDURE Q; TYPE P = POINTER TO R; R = RECORD END; END Q;", "TYPE T = U;", "VAR x: y;", "VAR x: x;", "VAR x: 5;", "VAR x, x: CHAR;", "VAR x: CHAR; x: INTEGER;", "VAR x CHAR;", "CONST c = 1; VAR x: c;", "VAR x: ABS;", "VAR x: CHAR; y: x;", "VAR x: M;", "VAR x: A.T;", "TYPE T = RECORD END; VAR x: T.a;",
		"PROCEDURE P; END Q;", "PROCEDURE P; END;", "PROCEDURE P; BEGIN RETURN 1 END P;", "PROCEDURE P(): INTEGER; END P;", "PROCEDURE P: INTEGER; RETURN 1 END P;", "PROCEDURE P(): INTEGER; RETURN TRUE END P;", "PROCEDURE P(): INTEGER; RETURN END P;", "TYPE R = RECORD END; VAR r: R; PROCEDURE P(): R; RETURN r END P;", "TYPE A = ARRAY 3 OF CHAR; PROCEDURE P(): A; RETURN \"ab\" END P;", "PROCEDURE P(a: INTEGER; a: CHAR); END P;", "PROCEDURE P(a, a: INTEGER); END P;", "PROCEDURE P(a: INTEGER); VAR a: CHAR; END P;", "PROCEDURE P(a: b); END P;", "PROCEDURE P(a: P); END P;", "PROCEDURE P(a: ARRAY 5 OF CHAR); END P;", "PROCEDURE P(a: ARRAY OF ARRAY OF CHAR); END P;", "PROCEDURE P(a: RECORD END); END P;", "PROCEDURE P(a*: CHAR); END P;", "PROCEDURE P(a: CHAR;); END P;", "PROCEDURE P(a: CHAR, b: CHAR); END P;", "PROCEDURE P(VAR VAR a: CHAR); END P;",
		"PROCEDURE P; VAR a*: INTEGER; END P;", "PROCEDURE P; PROCEDURE Q*; END Q; END P;", "PROCEDURE P; TYPE T* = CHAR; END P;", "PROCEDURE P; CONST c* = 1; END P;", "PROCEDURE P; END P; PROCEDURE P; END P;", "VAR P: CHAR; PROCEDURE P; END P;", "PROCEDURE P; VAR x: INTEGER; PROCEDURE Q; BEGIN x := 1 END Q; END P;", "PROCEDURE P(x: INTEGER); PROCEDURE Q(): INTEGER; RETURN x END Q; END P;", "PROCEDURE P(x: ARRAY OF CHAR); PROCEDURE Q(): INTEGER; RETURN LEN(x) END Q; END P;", "BEGIN P END M. PROCEDURE P; END P;", "PROCEDURE Q; BEGIN P END Q; PROCEDURE P; END P;", "PROCEDURE P; VAR q: INTEGER; END P; BEGIN q := 1",
		"PROCEDURE P(x: ARRAY OF CHAR); BEGIN x[0] := \"a\" END P;", "TYPE R = RECORD a: CHAR END; PROCEDURE P(x: R); BEGIN x.a := \"a\" END P;", "TYPE R = RECORD a: CHAR END; PROCEDURE Q(VAR r: R); END Q; PROCEDURE P(x: R); BEGIN Q(x) END P;", "PROCEDURE Q(VAR r: ARRAY OF CHAR); END Q; PROCEDURE P(x: ARRAY OF CHAR); BEGIN Q(x) END P;", "TYPE A = ARRAY 3 OF CHAR; PROCEDURE P(x: A); BEGIN READ(1, x[0]) END P;", "TYPE A = ARRAY 3 OF INTEGER; PROCEDURE P(x: A); BEGIN INC(x[0]) END P;", "TYPE T = POINTER TO RECORD END; A = ARRAY 3 OF T; PROCEDURE P(x: A); BEGIN NEW(x[0]) END P;", "TYPE P = POINTER TO R; R = RECORD n: P END; PROCEDURE Q(r: R); BEGIN r.n := NIL END Q;",
		"VAR T: INTEGER; PROCEDURE P(T: CHAR): T; RETURN T END P;", "BEGIN HALT(1) END M; BEGIN", "VAR x: INTEGER BEGIN", "VAR x: INTEGER; BEGIN x := y; CONST y = 1",
	}
}

func rightStatements() []string {
	return []string{
		"i := 5; y := 5; i := y; y := i; c := \"c\"; c := 0AX; c := q; b := t; s := e; p := NIL; o := NIL", "i := n + F() * j DIV 2 MOD 3 - 1", "b := i = y; b := c = \"a\"; b := \"a\" = c; b := \"a\" = \"b\"; b := s = {}; b := b = t; b := p = NIL; b := NIL # p; b := NIL = NIL; b := (NIL # NIL) = (NIL = p) & (NIL = NIL); b := p = p; b := i < y; b := c >= \"b\"; b := 3 IN s; b := y IN {i}; b := b & b OR ~b",
		"No; No(); One(1); One(y); One(F()); r.a := F(); c := G(300, i); c := G(y, r.a); Rec(r, r); Str(x); Str(z); Str(\"\"); Str(\"a\"); Str(\"abc\"); Str(m[1]); VStr(x); VStr(m[i]); Fix(x); Fix(m[0]); Ptr(p, p); Ptr(NIL, p); Ch(\"c\"); Ch(c); Ch(41X); Boo(i = 1, {1}); Boo(t, s)",
		"i := ABS(i) + ABS(y) + ORD(c) + ORD(b) + ORD(s) + ORD(i) + ORD(\"a\") + LSL(i, y) + ASR(y, i) + LEN(x) + LEN(m) + LEN(m[j]); b := ODD(i) OR ODD(y); c := CHR(i)",
		"INC(i); INC(y); INC(r.a, y); DEC(y, i); NEW(p); NEW(o); ASSERT(b); HALT(y)", "i := OLD(x) + OLD(\"a\") + FRESH(\"\") + FRESH(z) + LENGTH(i); b := EOF(y); READ(i, c); READ(y, y); READ(i, x[1]); WRITE(i, c); WRITE(i, 5); WRITE(i, \"a\"); READW(i, j); WRITEW(y, y); SEEK(i, y); REGISTER(i); DELETE(x); DELETE(\"x\")",
		"IF b THEN ELSIF ~b THEN No ELSE END; WHILE b DO No; END; REPEAT No; UNTIL b; IF (b) THEN END", "p.a := 1; p^.a := 2; r.a := p.a; m[i][j] := x[y]; x[0] := \"a\"; x[F()] := c; x[5] := c; o.c := q", "i := -(-i) + (+ i); i := -y; i := - i * 2; b := (i < j) = (c < q)", "s := {} + {i, y, 5} - s * {1} / s; b := i IN s; b := -1 IN s; b := (i + 1) IN s",
		"", ";", "i := 1;;", "b := ~~b; b := ~(i = 1) & ~b; b := (b OR b) & b", "i := 0FFH DIV 2; i := i DIV (n - 4)",
	}
}

func wrongStatements() []string {
	return []string{
		"i := TRUE", "i := c", "i := \"a\"", "c := 5", "c := \"ab\"", "c := \"\"", "b := 1", "s := 1", "p := r", "p := o", "i := NIL", "r := r", "x := x", "x := \"abc\"", "m := m", "r := rr", "5 := i", "n := 5", "F() := 5", "No := 5", "i = 5", "i :=", "i := ;", "i := j := 1", "INTEGER := 5", "i := INTEGER", "i := No", "i := No()", "i := F", "F", "F()", "i", "i()", "x[0](1)", "i := r", "i := x", "y := \"a\"", "c := y", "zz := 1", "i := zz", "M.i := 1", "i := M.i", "i := ABS", "ABS(1)", "i := INC(i)", "i := HALT(1)",
		"i := 1 + TRUE", "i := TRUE + TRUE", "b := b + b", "i := c + c", "s := s + 1", "s := s DIV s", "s := s & s", "i := i / j", "b := ~i", "b := i & b", "b := i OR b", "b := b & 1", "i := -b", "s := -s", "c := +c", "i := i DIV 0", "i := i MOD (1 - 1)", "i := i DIV -1", "i := i MOD ORD(FALSE)", "s := {b}", "s := {1,}", "s := {c}", "s := {1 .. 2}", "b := i IN i", "b := c IN s", "b := s IN s", "b := i = c", "b := i = b", "b := p = o", "b := p = 0", "b := r = r", "b := x = x", "b := x = \"abc\"", "b := \"ab\" = \"ab\"", "b := NIL < NIL", "b := NIL >= NIL", "b := NIL = 0", "b := FALSE # NIL", "b := NIL = \"a\"", "b := NIL = r", "b := x # NIL", "b := NIL IN s", "b := NIL = NIL = NIL", "b := NIL & TRUE", "b := ~NIL", "i := ORD(NIL)", "b := b < b", "b := s < s", "b := s <= s", "b := p < p", "b := c < i", "b := 1 < 2 < 3", "b := i = NIL", "b := 1 = 2 = TRUE", "b := NIL", "i := (1", "i := ()", "b := \"a\" < 1",
		"One", "One()", "One(1, 2)", "One(TRUE)", "One(\"a\")", "No(1)", "No(", "No)", "c := G(1, 2)", "c := G(1, y)", "c := G(1, i + 1)", "c := G(1, (i))", "c := G(1, n)", "c := G(TRUE, i)", "c := G(1)", "Rec(r, rr)", "Rec(rr, r)", "Rec(r, p)", "Rec(p^, i)", "Rec((r), r)", "Str(c)", "Str(q)", "Str((\"abc\"))", "Str((x))", "Str(5)", "Str(m)", "Str(r)", "VStr(\"a\")", "VStr(c)", "Fix(z)", "Fix(\"abc\")", "Ptr(o, p)", "Ptr(p, o)", "Ptr(p, NIL)", "Ints(x)", "Ints(\"a\")", "Ints(i)", "Ch(\"ab\")", "Ch(5)", "Ch(x)", "Boo(1, s)", "Boo(b, 1)", "Str(\"a\" + 1)", "One(x)", "Str(x",
		"i := ABS(c)", "i := ABS()", "i := ABS(1, 2)", "i := ORD(p)", "i := ORD(r)", "i := ORD(\"ab\")", "c := CHR(c)", "i := LSL(1)", "i := LSL(b, 1)", "i := LEN(\"abc\")", "i := LEN(i)", "i := LEN(A)", "i := LEN(r)", "b := ODD(b)", "INC(c)", "INC(n)", "INC(5)", "INC(i, b)", "INC()", "INC", "INC(F())", "NEW(r)", "NEW(i)", "NEW", "NEW(P)", "NEW(NIL)", "ASSERT(1)", "ASSERT", "HALT(b)", "HALT", "HALT()", "i := OLD(c)", "i := OLD(1)", "i := FRESH(q)", "b := EOF(c)", "i := EOF(i)", "i := LENGTH(x)", "READ(i, i)", "READ(i, 5)", "READ(c, c)", "READ(i, b)", "READ(i)", "WRITE(i, b)", "WRITE(i, s)", "WRITE(i, \"ab\")", "READW(i, y)", "READW(i, c)", "WRITEW(i, c)", "SEEK(i, c)", "SEEK(c, i)", "REGISTER(x)", "REGISTER", "DELETE(1)", "DELETE(c)", "DELETE(x, x)", "NEW(p, p)", "INC(i, 1, 2)", "ASSERT(b, b)", "HALT(1, 2)", "READ(i, c, c)", "READW(i, j, j)", "WRITE(i, i, i)", "WRITEW(i, i, i)", "SEEK(i, i, i)", "SEEK(i)", "REGISTER(i, i)", "WRITEW(i)", "READW(i)", "WRITE(i)", "i := LEN(x, x)", "b := EOF()", "i := OLD(x, x)", "i := FRESH()", "i := LENGTH(i, i)", "i := ASR(1)", "c := CHR(1, 2)", "i := ORD()", "b := ODD(1, 1)",
		"IF i THEN END", "IF b END", "IF b THEN", "IF b THEN ELSE ELSE END", "IF b THEN ELSIF END", "ELSE", "WHILE i DO END", "WHILE b END", "WHILE b DO", "REPEAT UNTIL i", "REPEAT END", "UNTIL b", "RETURN 1", "END", "p.zz := 1", "r.zz := 1", "i.a := 1", "i^ := 1", "r^ := r", "x.a := 1", "i[0] := 1", "r[0] := 1", "p[0] := 1", "x[b] := c", "x[c] := c", "x[] := c", "x[0, 1] := c", "x[0 := c", "r. := 1", "p^.zz := 1", "o^ := r", "m[0] := x", "i := 5; b := 1", "i := 5 b := t", "No No", "i := 1 +", "i := * 2", "b := ~", "i := 10DIV", "i := 0FF", "c := 100X", "i := !", "c := \"a", "i := 1 (* ", "i := - - 1", "i := + -1", "i := 1 + -1", "VAR", "i := F(1)", "i := F.a", "n.a := 1", "c := G", "P := NIL", "t := TRUE",
	}
}
