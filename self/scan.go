package self

const scanText = `MODULE Scan;
(* Texts become symbols. The first error ends all: it is put as the file 'error'. *)

CONST
  end* = 0; equal* = 1; unlike* = 2; less* = 3; lessEqual* = 4; more* = 5; moreEqual* = 6;
  plus* = 7; minus* = 8; times* = 9; slash* = 10; period* = 11; arrow* = 12; and* = 13; not* = 14;
  open* = 15; close* = 16; openIndex* = 17; closeIndex* = 18; openSet* = 19; closeSet* = 20;
  comma* = 21; semicolon* = 22; colon* = 23; becomes* = 24;
  name* = 25; number* = 26; char* = 27; string* = 28;
  array* = 30; begin* = 31; const* = 32; div* = 33; do* = 34; else* = 35; elsif* = 36; endWord* = 37;
  false* = 38; if* = 39; import* = 40; in* = 41; mod* = 42; module* = 43; nil* = 44; of* = 45; or* = 46;
  pointer* = 47; procedure* = 48; record* = 49; repeat* = 50; return* = 51; then* = 52; to* = 53;
  true* = 54; type* = 55; until* = 56; var* = 57; while* = 58;

  keywords = 29; firstKeyword = 30;
  maxSource = 65535; maxNames = 700; maxName = 15; maxString = 63;
  heads = 512;
  quote = 22X;

VAR
  sym*, pos*, val*, id*, len*: INTEGER; (* the symbol that was read last; len: of a string *)
  text*: ARRAY 64 OF CHAR;
  spell*: ARRAY 700 OF ARRAY 16 OF CHAR; (* names by their numbers *)
  names: INTEGER;
  next: ARRAY 700 OF INTEGER; (* names of the same hash *)
  head: ARRAY 512 OF INTEGER;
  source, size, at: INTEGER; (* the file; its length; the place of ch *)
  ch, ahead: CHAR; (* the byte that is looked at, and the one behind it *)
  word: ARRAY 16 OF CHAR;
  signs: ARRAY 128 OF INTEGER;

PROCEDURE MarkAt(code, place: INTEGER);
  VAR f: INTEGER;
BEGIN
  f := FRESH("error");
  WRITEW(f, code); WRITEW(f, place);
  REGISTER(f);
  HALT(0)
END MarkAt;

(* Mark does not come back. *)
PROCEDURE Mark*(code: INTEGER);
BEGIN
  MarkAt(code, pos)
END Mark;

PROCEDURE Ask*(ok: BOOLEAN; code: INTEGER);
BEGIN
  IF ~ok THEN MarkAt(code, pos) END
END Ask;

PROCEDURE Hash*(s: ARRAY OF CHAR): INTEGER;
  VAR i, h: INTEGER;
BEGIN
  WHILE s[i] # 0X DO h := h * 31 + ORD(s[i]); INC(i) END
  RETURN h
END Hash;

PROCEDURE Same*(a, b: ARRAY OF CHAR): BOOLEAN;
  VAR i: INTEGER;
BEGIN
  WHILE (a[i] = b[i]) & (a[i] # 0X) DO INC(i) END
  RETURN a[i] = b[i]
END Same;

(* Intern is a name's number, a new one if it has none yet. *)
PROCEDURE Intern*(s: ARRAY OF CHAR): INTEGER;
  VAR h, n, i: INTEGER;
BEGIN
  h := Hash(s) MOD heads;
  n := head[h] - 1;
  WHILE (n >= 0) & ~Same(spell[n], s) DO n := next[n] - 1 END;
  IF n < 0 THEN
    IF names >= maxNames THEN MarkAt(62, pos) END;
    n := names; INC(names);
    WHILE s[i] # 0X DO spell[n][i] := s[i]; INC(i) END;
    next[n] := head[h]; head[h] := n + 1
  END
  RETURN n
END Intern;

PROCEDURE step;
BEGIN
  ch := ahead;
  READ(source, ahead);
  INC(at)
END step;

PROCEDURE isLetter(c: CHAR): BOOLEAN;
RETURN (c >= "A") & (c <= "Z") OR (c >= "a") & (c <= "z")
END isLetter;

PROCEDURE isDigit(c: CHAR): BOOLEAN;
RETURN (c >= "0") & (c <= "9")
END isDigit;

PROCEDURE isHex(c: CHAR): BOOLEAN;
RETURN (c >= "0") & (c <= "9") OR (c >= "A") & (c <= "F")
END isHex;

PROCEDURE comment;
  VAR first, depth: INTEGER;
BEGIN
  first := at;
  REPEAT
    IF at >= size THEN MarkAt(5, first) END;
    IF (ch = "(") & (ahead = "*") THEN INC(depth); step
    ELSIF (ch = "*") & (ahead = ")") THEN DEC(depth); step
    END;
    step
  UNTIL depth = 0
END comment;

PROCEDURE blanks;
  VAR on: BOOLEAN;
BEGIN
  on := TRUE;
  WHILE on DO
    IF (ch <= " ") & (at < size) THEN step
    ELSIF (ch = "(") & (ahead = "*") THEN comment
    ELSE on := FALSE
    END
  END
END blanks;

PROCEDURE readName;
  VAR n: INTEGER;
BEGIN
  REPEAT
    IF n < maxName THEN word[n] := ch END;
    INC(n);
    step
  UNTIL ~isLetter(ch) & ~isDigit(ch);
  IF n > maxName THEN Mark(3) END;
  word[n] := 0X;
  n := Intern(word);
  IF n < keywords THEN sym := n + firstKeyword
  ELSE sym := name; id := n
  END
END readName;

PROCEDURE digit(c: CHAR): INTEGER;
  VAR n: INTEGER;
BEGIN
  IF c <= "9" THEN n := ORD(c) - ORD("0") ELSE n := ORD(c) - ORD("A") + 10 END
  RETURN n
END digit;

(* readNumber: of digits that count (behind noughts) a hexadecimal number has 8 at most. *)
PROCEDURE readNumber;
  VAR n, hex, dec, d: INTEGER; right: BOOLEAN;
BEGIN
  right := TRUE;
  WHILE ch = "0" DO step END;
  WHILE isHex(ch) DO
    d := digit(ch);
    hex := hex * 16 + d;
    right := right & (d < 10) & (dec <= (2147483647 - d) DIV 10);
    IF right THEN dec := dec * 10 + d END;
    INC(n);
    step
  END;
  sym := number;
  IF ch = "H" THEN step; dec := hex; right := n <= 8
  ELSIF ch = "X" THEN step; dec := hex; right := (n <= 8) & (hex >= 0) & (hex <= 255); sym := char
  END;
  IF ~right THEN Mark(2) END;
  val := dec
END readNumber;

PROCEDURE readText;
BEGIN
  len := 0;
  step;
  WHILE (ch >= " ") & (ch <= "~") & (ch # quote) DO
    IF len < maxString THEN text[len] := ch END;
    INC(len);
    step
  END;
  IF (ch # quote) OR (len > maxString) THEN Mark(4) END;
  step;
  text[len] := 0X;
  sym := string; val := ORD(text[0])
END readText;

PROCEDURE readSign;
BEGIN
  IF (ch >= 80X) OR (signs[ORD(ch) MOD 128] = 0) THEN Mark(1) END;
  sym := signs[ORD(ch)];
  step;
  IF ch = "=" THEN
    IF (sym = less) OR (sym = more) THEN INC(sym); step
    ELSIF sym = colon THEN sym := becomes; step
    END
  END
END readSign;

PROCEDURE Get*;
BEGIN
  blanks;
  pos := at;
  IF at >= size THEN sym := end
  ELSIF isLetter(ch) THEN readName
  ELSIF isDigit(ch) THEN readNumber
  ELSIF ch = quote THEN readText
  ELSE readSign
  END
END Get;

PROCEDURE sign(c: CHAR; symbol: INTEGER);
BEGIN
  signs[ORD(c)] := symbol
END sign;

PROCEDURE initSigns;
BEGIN
  sign("=", equal); sign("#", unlike); sign("<", less); sign(">", more);
  sign("+", plus); sign("-", minus); sign("*", times); sign("/", slash);
  sign(".", period); sign("^", arrow); sign("&", and); sign("~", not);
  sign("(", open); sign(")", close); sign("[", openIndex); sign("]", closeIndex);
  sign("{", openSet); sign("}", closeSet); sign(",", comma); sign(";", semicolon); sign(":", colon)
END initSigns;

(* initNames: words with blanks between. *)
PROCEDURE initNames(s: ARRAY OF CHAR);
  VAR i, n, k: INTEGER;
BEGIN
  WHILE s[i] # 0X DO
    n := 0;
    WHILE (s[i] # 0X) & (s[i] # " ") DO word[n] := s[i]; INC(n); INC(i) END;
    word[n] := 0X;
    k := Intern(word);
    IF s[i] # 0X THEN INC(i) END
  END
END initNames;

PROCEDURE openSource;
BEGIN
  source := OLD("source");
  IF source = 0 THEN HALT(0) END;
  size := LENGTH(source);
  IF size > maxSource THEN MarkAt(60, 0) END;
  READ(source, ch);
  READ(source, ahead)
END openSource;

BEGIN
  openSource;
  initSigns;
  initNames("ARRAY BEGIN CONST DIV DO ELSE ELSIF END FALSE IF IMPORT IN MOD");
  initNames("MODULE NIL OF OR POINTER PROCEDURE RECORD REPEAT RETURN THEN");
  initNames("TO TRUE TYPE UNTIL VAR WHILE");
  initNames("INTEGER BOOLEAN CHAR BYTE SET");
  initNames("ABS ODD ORD CHR LSL ASR LEN OLD FRESH EOF LENGTH INC DEC NEW");
  initNames("ASSERT HALT READ WRITE READW WRITEW SEEK REGISTER DELETE");
  Get
END Scan.
`
