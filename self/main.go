package self

const mainText = `MODULE Main;
(* The compiler of the file 'source': it makes a symbol file and an object file, or the file 'error'. *)
IMPORT Scan, Types, Scope, Gen;

CONST
  eSymbol = 10; eUnknown = 11; eTypes = 13; eConst = 14; eEndName = 15; eVariable = 16; eFixed = 17;
  eParams = 18; eLevel = 19; eClass = 20; eDivisor = 21; ePointer = 22; eReturn = 23; eShown = 24;
  eItself = 25; eScalar = 28; eUnfit = 29; eSize = 30;
  eDepth = 61; eThings = 63; eRegisters = 65; eData = 67; eFrame = 68; eEntries = 70; eText = 72; eFields = 73;

  maxDepth = 24; maxData = 262144; maxFrame = 32768; maxEntries = 200; maxText = 8192; maxThings = 900;
  group = 100; maxLength = 65535;

  (* predeclared procedures; those from inc on are statements *)
  abs = 1; odd = 2; ord = 3; chr = 4; lsl = 5; asr = 6; len = 7; old = 8; fresh = 9; eof = 10; length = 11;
  inc = 12; dec = 13; new = 14; assert = 15; halt = 16; read = 17; write = 18; readw = 19; writew = 20;
  seek = 21; register = 22; delete = 23;

  (* what Parse does *)
  doExpression = 0; doVariable = 1; doArguments = 2; doArray = 3;

TYPE
  Proc = RECORD thing, words, bytes, entry: INTEGER END; (* thing 0: the module *)

VAR
  name, depth, vars: INTEGER; (* the module's name; how deep all stands; bytes of the module's variables *)
  text: ARRAY 8192 OF CHAR;
  textLen: INTEGER;
  entries: ARRAY 201 OF INTEGER;
  nentries: INTEGER;
  places: ARRAY 930 OF INTEGER; (* where procedures begin, by their things' numbers *)
  forName, forPointer: ARRAY 200 OF INTEGER; (* pointers to what is declared later *)
  nfor: INTEGER;
  inTypes: BOOLEAN;
  listId: ARRAY 900 OF INTEGER; (* variables of one list *)
  listShown: ARRAY 900 OF BOOLEAN;

PROCEDURE skip(sym: INTEGER);
BEGIN
  Scan.Ask(Scan.sym = sym, eSymbol);
  Scan.Get
END skip;

PROCEDURE may(sym: INTEGER): BOOLEAN;
  VAR is: BOOLEAN;
BEGIN
  is := Scan.sym = sym;
  IF is THEN Scan.Get END
  RETURN is
END may;

PROCEDURE ident(): INTEGER;
  VAR id: INTEGER;
BEGIN
  Scan.Ask(Scan.sym = Scan.name, eSymbol);
  id := Scan.id;
  Scan.Get
  RETURN id
END ident;

PROCEDURE deeper;
BEGIN
  INC(depth);
  Scan.Ask(depth <= maxDepth, eDepth)
END deeper;

PROCEDURE form(t: INTEGER): INTEGER;
RETURN Types.types[t].form
END form;

(* qualname is what a name, or a module's one, stands for. *)
PROCEDURE qualname(): INTEGER;
  VAR x: INTEGER;
BEGIN
  Scan.Ask(Scan.sym = Scan.name, eSymbol);
  x := Scope.Find(Scan.id);
  Scan.Ask(x # 0, eUnknown);
  Scan.Get;
  IF Scope.things[x].class = Scope.module THEN
    skip(Scan.period);
    Scan.Ask(Scan.sym = Scan.name, eSymbol);
    x := Scope.FindIn(Scope.things[x].module, Scan.id);
    Scan.Ask(x # 0, eUnknown);
    Scan.Get
  END
  RETURN x
END qualname;

PROCEDURE typeName(): INTEGER;
  VAR x: INTEGER;
BEGIN
  x := qualname();
  Scan.Ask(Scope.things[x].class = Scope.type, eClass)
  RETURN Scope.things[x].typ
END typeName;

(* constants *)

PROCEDURE foldSets(op, a, b: INTEGER): INTEGER;
  VAR i, c, x, y: INTEGER;
BEGIN
  WHILE i < 32 DO
    x := ASR(a, i) MOD 2; y := ASR(b, i) MOD 2;
    IF op = Scan.plus THEN x := x + y - x * y
    ELSIF op = Scan.minus THEN x := x - x * y
    ELSIF op = Scan.times THEN x := x * y
    ELSE x := (x + y) MOD 2
    END;
    c := c + LSL(x, i);
    INC(i)
  END
  RETURN c
END foldSets;

PROCEDURE foldNumbers(op, a, b: INTEGER): INTEGER;
BEGIN
  IF op = Scan.plus THEN a := a + b
  ELSIF op = Scan.minus THEN a := a - b
  ELSIF op = Scan.times THEN a := a * b
  ELSIF op = Scan.div THEN a := a DIV b
  ELSE a := a MOD b
  END
  RETURN a
END foldNumbers;

PROCEDURE withBit(bits, n: INTEGER): INTEGER;
BEGIN
  IF ASR(bits, n) MOD 2 = 0 THEN bits := bits + LSL(1, n) END
  RETURN bits
END withBit;

PROCEDURE constant(VAR x: Gen.Item; typ, a: INTEGER);
BEGIN
  x.mode := Gen.const; x.typ := typ; x.a := a; x.b := 0; x.r := 0; x.fixed := FALSE
END constant;

(* copy makes of x what y is. *)
PROCEDURE copy(VAR x: Gen.Item; y: Gen.Item);
BEGIN
  x.mode := y.mode; x.typ := y.typ; x.a := y.a; x.b := y.b; x.r := y.r; x.fixed := y.fixed
END copy;

PROCEDURE fitEach(x, y: Gen.Item): BOOLEAN;
RETURN (x.typ = y.typ) OR Types.Fits(x.typ, y.typ) OR Types.Fits(y.typ, x.typ)
END fitEach;

PROCEDURE condOf(op: INTEGER): INTEGER;
  VAR c: INTEGER;
BEGIN
  IF op = Scan.equal THEN c := Gen.eq
  ELSIF op = Scan.unlike THEN c := Gen.ne
  ELSIF op = Scan.less THEN c := Gen.lt
  ELSIF op = Scan.lessEqual THEN c := Gen.le
  ELSIF op = Scan.more THEN c := Gen.gt
  ELSE c := Gen.ge
  END
  RETURN c
END condOf;

PROCEDURE setOp(op: INTEGER): INTEGER;
  VAR c: INTEGER;
BEGIN
  IF op = Scan.plus THEN c := Gen.ior
  ELSIF op = Scan.minus THEN c := Gen.ann
  ELSIF op = Scan.times THEN c := Gen.and
  ELSE c := Gen.xor
  END
  RETURN c
END setOp;

PROCEDURE numberOp(op: INTEGER): INTEGER;
  VAR c: INTEGER;
BEGIN
  IF op = Scan.plus THEN c := Gen.add
  ELSIF op = Scan.minus THEN c := Gen.sub
  ELSE c := Gen.mul
  END
  RETURN c
END numberOp;

(* Parse: what calls each other stands within it. *)
PROCEDURE Parse(what: INTEGER; VAR x: Gen.Item; n: INTEGER);

  PROCEDURE expression(VAR x: Gen.Item);
  BEGIN
    Parse(doExpression, x, 0)
  END expression;

  PROCEDURE integer(VAR x: Gen.Item);
  BEGIN
    expression(x);
    Scan.Ask(Types.Integer(x.typ), eTypes)
  END integer;

  PROCEDURE pointed(VAR x: Gen.Item);
    VAR base: INTEGER;
  BEGIN
    base := Types.types[x.typ].base;
    Gen.Deref(x);
    x.typ := base
  END pointed;

  PROCEDURE element(VAR x: Gen.Item);
    VAR y: Gen.Item; t: INTEGER;
  BEGIN
    t := x.typ;
    Scan.Ask((form(t) = Types.array) OR (form(t) = Types.open), eTypes);
    Scan.Get;
    integer(y);
    Gen.Index(x, y, Types.types[t].len, Types.types[Types.types[t].base].size);
    x.typ := Types.types[t].base;
    skip(Scan.closeIndex)
  END element;

  PROCEDURE member(VAR x: Gen.Item);
    VAR f: INTEGER;
  BEGIN
    IF form(x.typ) = Types.pointer THEN pointed(x) END;
    Scan.Ask(form(x.typ) = Types.record, eTypes);
    Scan.Get;
    Scan.Ask(Scan.sym = Scan.name, eSymbol);
    f := Types.FieldOf(x.typ, Scan.id);
    Scan.Ask(f # 0, eUnknown);
    Gen.Field(x, Types.fields[f].off);
    x.typ := Types.fields[f].typ;
    Scan.Get
  END member;

  (* variable is one that the thing n is, and goes on to parts of it. *)
  PROCEDURE variable(VAR x: Gen.Item; n: INTEGER);
    VAR on: BOOLEAN;
  BEGIN
    Scan.Ask((Scope.things[n].class = Scope.var) OR (Scope.things[n].class = Scope.par), eVariable);
    x.mode := Gen.local; x.typ := Scope.things[n].typ; x.a := Scope.things[n].val; x.b := 0; x.r := 0;
    x.fixed := Scope.things[n].fixed;
    IF Scope.things[n].module > 0 THEN x.mode := Gen.global; x.r := Scope.Place(Scope.things[n].module)
    ELSIF Scope.things[n].level = 0 THEN x.mode := Gen.global
    ELSE
      Scan.Ask(Scope.things[n].level = Scope.level, eLevel);
      IF Scope.things[n].class = Scope.par THEN x.mode := Gen.par END
    END;
    on := TRUE;
    WHILE on DO
      IF Scan.sym = Scan.openIndex THEN element(x)
      ELSIF Scan.sym = Scan.period THEN member(x)
      ELSIF Scan.sym = Scan.arrow THEN
        Scan.Ask(form(x.typ) = Types.pointer, eTypes);
        pointed(x);
        Scan.Get
      ELSE on := FALSE
      END
    END
  END variable;

  PROCEDURE designator(VAR x: Gen.Item);
  BEGIN
    variable(x, qualname())
  END designator;

  (* arrays is an array's address, and its length; of CHAR a string's, too. *)
  PROCEDURE arrays(base: INTEGER; isVar: BOOLEAN; VAR x: Gen.Item);
    VAR length: Gen.Item; i, k: INTEGER;
  BEGIN
    IF (Scan.sym = Scan.string) & (base = Types.char) & ~isVar THEN
      k := Scan.len + 1;
      constant(x, 0, vars + textLen);
      x.mode := Gen.global;
      Scan.Ask(textLen + k <= maxText, eText);
      WHILE i < k DO text[textLen + i] := Scan.text[i]; INC(i) END;
      INC(textLen, k);
      Scan.Get;
      Gen.Address(x);
      constant(length, Types.integer, k)
    ELSE
      designator(x);
      k := x.typ;
      Scan.Ask(((form(k) = Types.array) OR (form(k) = Types.open)) & (Types.types[k].base = base), eUnfit);
      Scan.Ask(~isVar OR ~x.fixed, eFixed);
      constant(length, Types.integer, Types.types[k].len);
      IF form(k) = Types.open THEN length.mode := Gen.local; length.a := x.a + 4 END;
      Gen.Address(x)
    END;
    Gen.Load(length)
  END arrays;

  PROCEDURE argument(isVar: BOOLEAN; typ: INTEGER);
    VAR x: Gen.Item;
  BEGIN
    IF form(typ) = Types.open THEN arrays(Types.types[typ].base, isVar, x)
    ELSIF isVar OR ~Types.Scalar(typ) THEN
      designator(x);
      Scan.Ask((x.typ = typ) & (typ # Types.nil), eUnfit);
      Scan.Ask(~isVar OR ~x.fixed, eFixed);
      Gen.Address(x)
    ELSE
      expression(x);
      Scan.Ask(Types.Fits(typ, x.typ), eUnfit);
      Gen.Load(x)
    END
  END argument;

  (* arguments hands parameters of the thing n in, and calls. *)
  PROCEDURE arguments(n: INTEGER);
    VAR i, first: INTEGER;
  BEGIN
    IF may(Scan.open) THEN
      first := Scope.things[n].first;
      WHILE i < Scope.things[n].count DO
        IF i > 0 THEN skip(Scan.comma) END;
        argument(Scope.pvar[first + i], Scope.ptyp[first + i]);
        INC(i)
      END;
      skip(Scan.close)
    ELSE Scan.Ask(Scope.things[n].count = 0, eParams)
    END;
    IF Scope.things[n].module > 0 THEN
      Gen.Fixup(Scope.Place(Scope.things[n].module), Scope.things[n].val);
      Gen.Call(0)
    ELSE Gen.Call(places[n] - Gen.pc - 1)
    END
  END arguments;

  (* predeclared procedures that tell something *)

  PROCEDURE ofNumber(fn: INTEGER; VAR x: Gen.Item);
    VAR isConst: BOOLEAN;
  BEGIN
    Gen.Hold(x);
    isConst := x.mode = Gen.const;
    x.typ := Types.integer;
    IF fn = abs THEN
      IF isConst THEN x.a := ABS(x.a) ELSE Gen.Abs(x) END
    ELSIF fn = odd THEN
      x.typ := Types.boolean;
      IF isConst THEN x.a := x.a MOD 2 ELSE Gen.Odd(x) END
    ELSE
      x.typ := Types.char;
      IF isConst THEN x.a := x.a MOD 256 ELSE Gen.Im(Gen.and, x.r, x.r, 255) END
    END
  END ofNumber;

  PROCEDURE shift(fn: INTEGER; VAR x: Gen.Item);
    VAR n: Gen.Item;
  BEGIN
    integer(x);
    Gen.Hold(x);
    skip(Scan.comma);
    integer(n);
    IF (x.mode # Gen.const) OR (n.mode # Gen.const) THEN
      IF n.mode = Gen.const THEN n.a := n.a MOD 32 END;
      IF fn = lsl THEN Gen.Operate(Gen.lsl, x, n) ELSE Gen.Operate(Gen.asr, x, n) END
    ELSIF fn = lsl THEN x.a := LSL(x.a, n.a)
    ELSE x.a := ASR(x.a, n.a)
    END;
    x.typ := Types.integer
  END shift;

  PROCEDURE lengthOf(VAR x: Gen.Item);
    VAR t: INTEGER;
  BEGIN
    designator(x);
    t := x.typ;
    Scan.Ask((form(t) = Types.array) OR (form(t) = Types.open), eTypes);
    IF x.mode = Gen.ind THEN Gen.Drop END;
    IF form(t) = Types.array THEN constant(x, Types.integer, Types.types[t].len)
    ELSE x.mode := Gen.local; x.a := x.a + 4; x.typ := Types.integer; x.fixed := FALSE
    END;
    Gen.Load(x)
  END lengthOf;

  PROCEDURE ofFile(fn: INTEGER; VAR x: Gen.Item);
    VAR k: INTEGER;
  BEGIN
    k := Gen.Prepare();
    IF (fn = old) OR (fn = fresh) THEN arrays(Types.char, FALSE, x)
    ELSE integer(x); Gen.Load(x)
    END;
    Gen.Sys(Gen.callOld + fn - old);
    Gen.Resume(k, x);
    x.typ := Types.integer;
    IF fn = eof THEN x.typ := Types.boolean END
  END ofFile;

  PROCEDURE function(fn: INTEGER; VAR x: Gen.Item);
  BEGIN
    skip(Scan.open);
    IF (fn = abs) OR (fn = odd) OR (fn = chr) THEN integer(x); ofNumber(fn, x)
    ELSIF fn = ord THEN
      expression(x);
      Scan.Ask(Types.Integer(x.typ) OR (x.typ = Types.char) OR (x.typ = Types.boolean) OR (x.typ = Types.set), eTypes);
      Gen.Hold(x);
      x.typ := Types.integer
    ELSIF (fn = lsl) OR (fn = asr) THEN shift(fn, x)
    ELSIF fn = len THEN lengthOf(x)
    ELSE ofFile(fn, x)
    END;
    skip(Scan.close)
  END function;

  (* factors, terms *)

  PROCEDURE set(VAR x: Gen.Item);
    VAR y: Gen.Item; bits: INTEGER; some, on: BOOLEAN;
  BEGIN
    Scan.Get;
    constant(x, Types.set, 0);
    x.mode := Gen.reg;
    on := Scan.sym # Scan.closeSet;
    WHILE on DO
      integer(y);
      IF y.mode = Gen.const THEN bits := withBit(bits, y.a MOD 32)
      ELSE
        Gen.Single(y);
        IF some THEN
          Gen.Reg(Gen.ior, x.r, x.r, y.r);
          Gen.Drop
        ELSE x.r := y.r; some := TRUE
        END
      END;
      on := may(Scan.comma);
      IF on THEN Scan.Ask(Scan.sym # Scan.closeSet, eSymbol) END
    END;
    IF ~some THEN x.mode := Gen.const; x.a := bits
    ELSIF bits # 0 THEN Gen.WithConst(Gen.ior, x.r, x.r, bits)
    END;
    skip(Scan.closeSet)
  END set;

  PROCEDURE named(VAR x: Gen.Item);
    VAR n, k, class: INTEGER;
  BEGIN
    n := qualname();
    class := Scope.things[n].class;
    IF class = Scope.const THEN constant(x, Scope.things[n].typ, Scope.things[n].val)
    ELSIF class = Scope.proc THEN
      Scan.Ask((Scope.things[n].typ # 0) & (Scan.sym = Scan.open), eClass);
      k := Gen.Prepare();
      arguments(n);
      Gen.Resume(k, x);
      x.typ := Scope.things[n].typ
    ELSIF class = Scope.std THEN
      Scan.Ask(Scope.things[n].val < inc, eClass);
      function(Scope.things[n].val, x)
    ELSE variable(x, n)
    END
  END named;

  PROCEDURE factor(VAR x: Gen.Item);
    VAR nots: INTEGER;
  BEGIN
    WHILE may(Scan.not) DO INC(nots) END;
    IF Scan.sym = Scan.number THEN constant(x, Types.integer, Scan.val); Scan.Get
    ELSIF Scan.sym = Scan.string THEN
      Scan.Ask(Scan.len = 1, eTypes);
      constant(x, Types.char, Scan.val); Scan.Get
    ELSIF Scan.sym = Scan.char THEN constant(x, Types.char, Scan.val); Scan.Get
    ELSIF Scan.sym = Scan.nil THEN constant(x, Types.nil, 0); Scan.Get
    ELSIF Scan.sym = Scan.true THEN constant(x, Types.boolean, 1); Scan.Get
    ELSIF Scan.sym = Scan.false THEN constant(x, Types.boolean, 0); Scan.Get
    ELSIF Scan.sym = Scan.openSet THEN set(x)
    ELSIF Scan.sym = Scan.open THEN
      Scan.Get;
      expression(x);
      skip(Scan.close)
    ELSIF Scan.sym = Scan.name THEN named(x)
    ELSE Scan.Mark(eSymbol)
    END;
    IF nots > 0 THEN
      Scan.Ask(x.typ = Types.boolean, eTypes);
      IF ODD(nots) THEN Gen.Not(x) END
    END
  END factor;

  (* began is & or OR, ahead of its second operand; tells is the value of x that tells the result alone. *)
  PROCEDURE began(VAR x, was: Gen.Item; tells: INTEGER; VAR before: INTEGER);
  BEGIN
    Scan.Ask(x.typ = Types.boolean, eTypes);
    copy(was, x);
    before := Gen.pc;
    IF tells = 0 THEN Gen.Unless(x) ELSE Gen.When(x) END;
    Scan.Get
  END began;

  PROCEDURE ended(VAR x, was, y: Gen.Item; tells, before: INTEGER);
  BEGIN
    Scan.Ask(y.typ = Types.boolean, eTypes);
    IF (was.mode = Gen.const) & (y.mode = Gen.const) THEN
      Gen.Back(before);
      copy(x, was);
      IF was.a # tells THEN x.a := y.a END
    ELSIF tells = 0 THEN Gen.Both(x, y)
    ELSE Gen.Either(x, y)
    END
  END ended;

  (* start is an operation of numbers, or of sets, ahead of its second operand. *)
  PROCEDURE start(VAR x: Gen.Item): INTEGER;
    VAR op: INTEGER;
  BEGIN
    op := Scan.sym;
    Scan.Ask(Types.Integer(x.typ) & (op # Scan.slash) OR (x.typ = Types.set) & (op # Scan.div) & (op # Scan.mod), eTypes);
    Gen.Hold(x);
    Scan.Get
    RETURN op
  END start;

  PROCEDURE finish(op: INTEGER; VAR x, y: Gen.Item);
    VAR divides: BOOLEAN;
  BEGIN
    IF x.typ # Types.set THEN
      Scan.Ask(Types.Integer(y.typ), eTypes);
      divides := (op = Scan.div) OR (op = Scan.mod);
      Scan.Ask(~divides OR (y.mode # Gen.const) OR (y.a > 0), eDivisor);
      IF (x.mode = Gen.const) & (y.mode = Gen.const) THEN x.a := foldNumbers(op, x.a, y.a)
      ELSIF divides THEN Gen.Divide(op = Scan.mod, x, y)
      ELSE Gen.Operate(numberOp(op), x, y)
      END;
      x.typ := Types.integer
    ELSE
      Scan.Ask(y.typ = Types.set, eTypes);
      IF (x.mode = Gen.const) & (y.mode = Gen.const) THEN x.a := foldSets(op, x.a, y.a)
      ELSE Gen.Operate(setOp(op), x, y)
      END
    END
  END finish;

  PROCEDURE term(VAR x: Gen.Item);
    VAR y, was: Gen.Item; op, before: INTEGER; on: BOOLEAN;
  BEGIN
    factor(x);
    on := TRUE;
    WHILE on DO
      op := Scan.sym;
      IF op = Scan.and THEN
        began(x, was, 0, before);
        factor(y);
        ended(x, was, y, 0, before)
      ELSIF (op = Scan.times) OR (op = Scan.slash) OR (op = Scan.div) OR (op = Scan.mod) THEN
        op := start(x);
        factor(y);
        finish(op, x, y)
      ELSE on := FALSE
      END
    END
  END term;

  PROCEDURE simple(VAR x: Gen.Item);
    VAR y, was: Gen.Item; op, before: INTEGER; on: BOOLEAN;
  BEGIN
    op := Scan.sym;
    IF (op = Scan.plus) OR (op = Scan.minus) THEN
      Scan.Get;
      term(x);
      Scan.Ask(Types.Integer(x.typ), eTypes);
      Gen.Hold(x);
      IF op = Scan.minus THEN Gen.Negate(x) END;
      x.typ := Types.integer
    ELSE term(x)
    END;
    on := TRUE;
    WHILE on DO
      op := Scan.sym;
      IF op = Scan.or THEN
        began(x, was, 1, before);
        term(y);
        ended(x, was, y, 1, before)
      ELSIF (op = Scan.plus) OR (op = Scan.minus) THEN
        op := start(x);
        term(y);
        finish(op, x, y)
      ELSE on := FALSE
      END
    END
  END simple;

  PROCEDURE relation(op: INTEGER; VAR x, y: Gen.Item);
  BEGIN
    IF op = Scan.in THEN
      Scan.Ask(Types.Integer(x.typ) & (y.typ = Types.set), eTypes);
      Gen.In(x, y)
    ELSE
      IF (op = Scan.equal) OR (op = Scan.unlike) THEN Scan.Ask(fitEach(x, y), eTypes)
      ELSE Scan.Ask(Types.Integer(x.typ) & Types.Integer(y.typ) OR (x.typ = Types.char) & (y.typ = Types.char), eTypes)
      END;
      Gen.Compare(condOf(op), x, y)
    END
  END relation;

  PROCEDURE whole(VAR x: Gen.Item);
    VAR y: Gen.Item; op: INTEGER;
  BEGIN
    deeper;
    simple(x);
    op := Scan.sym;
    IF (op >= Scan.equal) & (op <= Scan.moreEqual) OR (op = Scan.in) THEN
      Scan.Ask(Types.Scalar(x.typ), eTypes);
      Gen.Hold(x);
      Scan.Get;
      simple(y);
      relation(op, x, y);
      x.typ := Types.boolean
    END;
    DEC(depth)
  END whole;

BEGIN
  IF what = doExpression THEN whole(x)
  ELSIF what = doVariable THEN variable(x, n)
  ELSIF what = doArguments THEN arguments(n)
  ELSIF what = doArray THEN arrays(n, FALSE, x)
  END
END Parse;

PROCEDURE expression(VAR x: Gen.Item);
BEGIN
  Parse(doExpression, x, 0)
END expression;

PROCEDURE integer(VAR x: Gen.Item);
BEGIN
  expression(x);
  Scan.Ask(Types.Integer(x.typ), eTypes)
END integer;

PROCEDURE variable(VAR x: Gen.Item; n: INTEGER);
BEGIN
  Parse(doVariable, x, n)
END variable;

(* statements *)

PROCEDURE target(VAR x: Gen.Item);
BEGIN
  variable(x, qualname());
  Scan.Ask(~x.fixed, eFixed)
END target;

PROCEDURE increase(less: BOOLEAN);
  VAR v, n: Gen.Item; r, op: INTEGER;
BEGIN
  target(v);
  Scan.Ask(Types.Integer(v.typ), eTypes);
  constant(n, Types.integer, 1);
  IF may(Scan.comma) THEN integer(n); Gen.Hold(n) END;
  r := Gen.Take();
  Gen.Fetch(v, r);
  op := Gen.add;
  IF less THEN op := Gen.sub END;
  IF n.mode = Gen.const THEN Gen.WithConst(op, r, r, n.a) ELSE Gen.Reg(op, r, r, n.r) END;
  Gen.StoreReg(v, r)
END increase;

PROCEDURE allotNew;
  VAR p: Gen.Item;
BEGIN
  target(p);
  Scan.Ask(form(p.typ) = Types.pointer, eTypes);
  IF p.mode = Gen.ind THEN
    (* the call's answer comes where the address stands *)
    Gen.Reg(Gen.mov, Gen.scratch, 0, p.r);
    p.r := Gen.scratch
  END;
  Gen.LoadConst(0, Types.types[Types.types[p.typ].base].size);
  Gen.Sys(Gen.callNew);
  Gen.StoreReg(p, 0)
END allotNew;

PROCEDURE assertion;
  VAR x: Gen.Item;
BEGIN
  expression(x);
  Scan.Ask(x.typ = Types.boolean, eTypes);
  Gen.When(x);
  Gen.Trap(Gen.always, 7);
  Gen.FixLink(x.b)
END assertion;

PROCEDURE reads(fn: INTEGER);
  VAR f, v: Gen.Item;
BEGIN
  integer(f);
  Gen.Load(f);
  skip(Scan.comma);
  target(v);
  IF fn = read THEN
    Scan.Ask((v.typ = Types.char) OR (v.typ = Types.byte), eTypes);
    Gen.Sys(22)
  ELSE
    Scan.Ask(v.typ = Types.integer, eTypes);
    Gen.Sys(23)
  END;
  Gen.StoreReg(v, 0)
END reads;

PROCEDURE writes(fn: INTEGER);
  VAR f, x: Gen.Item;
BEGIN
  integer(f);
  Gen.Load(f);
  skip(Scan.comma);
  expression(x);
  Scan.Ask(Types.Integer(x.typ) OR (fn = write) & (x.typ = Types.char), eTypes);
  Gen.Load(x);
  IF fn = write THEN Gen.Sys(24)
  ELSIF fn = writew THEN Gen.Sys(25)
  ELSE Gen.Sys(26)
  END
END writes;

PROCEDURE oneNumber(call: INTEGER);
  VAR x: Gen.Item;
BEGIN
  integer(x);
  Gen.Load(x);
  Gen.Sys(call)
END oneNumber;

PROCEDURE standard(fn: INTEGER);
  VAR x: Gen.Item;
BEGIN
  skip(Scan.open);
  IF (fn = inc) OR (fn = dec) THEN increase(fn = dec)
  ELSIF fn = new THEN allotNew
  ELSIF fn = assert THEN assertion
  ELSIF fn = halt THEN oneNumber(16)
  ELSIF (fn = read) OR (fn = readw) THEN reads(fn)
  ELSIF (fn = write) OR (fn = writew) OR (fn = seek) THEN writes(fn)
  ELSIF fn = register THEN oneNumber(27)
  ELSE Parse(doArray, x, Types.char); Gen.Sys(28)
  END;
  skip(Scan.close)
END standard;

PROCEDURE simpleStatement;
  VAR n, class: INTEGER; x, y: Gen.Item;
BEGIN
  n := qualname();
  class := Scope.things[n].class;
  IF class = Scope.proc THEN
    Scan.Ask(Scope.things[n].typ = 0, eClass);
    Parse(doArguments, x, n)
  ELSIF class = Scope.std THEN
    Scan.Ask(Scope.things[n].val >= inc, eClass);
    standard(Scope.things[n].val)
  ELSE
    variable(x, n);
    Scan.Ask(Types.Scalar(x.typ), eScalar);
    Scan.Ask(~x.fixed, eFixed);
    skip(Scan.becomes);
    expression(y);
    Scan.Ask(Types.Fits(x.typ, y.typ), eUnfit);
    Gen.Store(x, y)
  END
END simpleStatement;

(* condition is a BOOLEAN; jumps are made, if it does not hold. *)
PROCEDURE condition(VAR x: Gen.Item);
BEGIN
  expression(x);
  Scan.Ask(x.typ = Types.boolean, eTypes);
  Gen.Unless(x)
END condition;

(* jump makes a jump that goes where others go. *)
PROCEDURE jump(others: INTEGER): INTEGER;
BEGIN
  Gen.Branch(Gen.always, others)
  RETURN Gen.pc - 1
END jump;

PROCEDURE statements;

  PROCEDURE ifStatement;
    VAR x: Gen.Item; over: INTEGER; on: BOOLEAN;
  BEGIN
    on := TRUE;
    WHILE on DO
      Scan.Get;
      condition(x);
      skip(Scan.then);
      statements;
      on := Scan.sym = Scan.elsif;
      IF on THEN
        over := jump(over);
        Gen.FixLink(x.a)
      END
    END;
    IF may(Scan.else) THEN
      over := jump(over);
      Gen.FixLink(x.a);
      statements
    ELSE Gen.FixLink(x.a)
    END;
    Gen.FixLink(over);
    skip(Scan.endWord)
  END ifStatement;

  PROCEDURE whileStatement;
    VAR x: Gen.Item; first: INTEGER;
  BEGIN
    Scan.Get;
    first := Gen.pc;
    condition(x);
    skip(Scan.do);
    statements;
    Gen.Branch(Gen.always, first - Gen.pc - 1);
    Gen.FixLink(x.a);
    skip(Scan.endWord)
  END whileStatement;

  PROCEDURE repeatStatement;
    VAR x: Gen.Item; first: INTEGER;
  BEGIN
    Scan.Get;
    first := Gen.pc;
    statements;
    skip(Scan.until);
    expression(x);
    Scan.Ask(x.typ = Types.boolean, eTypes);
    Gen.LoadCond(x);
    Gen.Branch((x.r + 8) MOD 16, first - Gen.pc - 1);
    Gen.FixLinkTo(x.a, first);
    Gen.FixLink(x.b)
  END repeatStatement;

  PROCEDURE statement;
  BEGIN
    IF Scan.sym = Scan.name THEN simpleStatement
    ELSIF Scan.sym = Scan.if THEN ifStatement
    ELSIF Scan.sym = Scan.while THEN whileStatement
    ELSIF Scan.sym = Scan.repeat THEN repeatStatement
    END;
    Gen.Clear
  END statement;

BEGIN
  deeper;
  statement;
  WHILE may(Scan.semicolon) DO statement END;
  DEC(depth)
END statements;

(* declarations *)

PROCEDURE nameDef(VAR shown: BOOLEAN): INTEGER;
  VAR id: INTEGER;
BEGIN
  id := ident();
  shown := Scan.sym = Scan.times;
  IF shown THEN
    Scan.Ask(Scope.level = 0, eShown);
    Scan.Get
  END
  RETURN id
END nameDef;

PROCEDURE type(): INTEGER;
  VAR t, n: INTEGER; x: Gen.Item;

  PROCEDURE fields(r: INTEGER);
    VAR ids: ARRAY 100 OF INTEGER; n, i, t: INTEGER;
  BEGIN
    REPEAT
      t := ident();
      Scan.Ask(n < group, eFields);
      ids[n] := t;
      INC(n)
    UNTIL ~may(Scan.comma);
    skip(Scan.colon);
    t := type();
    WHILE i < n DO Types.Add(r, ids[i], t); INC(i) END
  END fields;

  PROCEDURE record(): INTEGER;
    VAR r: INTEGER;
  BEGIN
    Scan.Get;
    r := Types.Record();
    REPEAT
      IF Scan.sym = Scan.name THEN fields(r) END
    UNTIL ~may(Scan.semicolon);
    skip(Scan.endWord);
    Types.End(r)
    RETURN r
  END record;

  PROCEDURE pointer(): INTEGER;
    VAR t: INTEGER;
  BEGIN
    Scan.Get;
    skip(Scan.to);
    IF (Scan.sym = Scan.name) & inTypes & (Scope.Find(Scan.id) = 0) THEN
      t := Types.Pointer(0);
      forName[nfor] := Scan.id; forPointer[nfor] := t;
      INC(nfor);
      Scan.Get
    ELSE
      t := type();
      Scan.Ask(form(t) = Types.record, ePointer);
      t := Types.Pointer(t)
    END
    RETURN t
  END pointer;

BEGIN
  deeper;
  IF Scan.sym = Scan.name THEN t := typeName()
  ELSIF Scan.sym = Scan.array THEN
    Scan.Get;
    expression(x);
    Scan.Ask((x.mode = Gen.const) & (x.typ = Types.integer), eConst);
    Scan.Ask((x.a >= 1) & (x.a <= maxLength), eSize);
    skip(Scan.of);
    n := x.a;
    t := type();
    t := Types.Array(n, t)
  ELSIF Scan.sym = Scan.record THEN t := record()
  ELSIF Scan.sym = Scan.pointer THEN t := pointer()
  ELSE Scan.Mark(eSymbol)
  END;
  DEC(depth)
  RETURN t
END type;

PROCEDURE constDecl;
  VAR id, n: INTEGER; shown: BOOLEAN; x: Gen.Item;
BEGIN
  id := nameDef(shown);
  skip(Scan.equal);
  expression(x);
  Scan.Ask((x.mode = Gen.const) & (x.typ # Types.nil), eConst);
  n := Scope.Declare(Scope.const, id, x.typ, x.a, shown, FALSE);
  skip(Scan.semicolon)
END constDecl;

PROCEDURE typeDecl;
  VAR id, t, n, i, k: INTEGER; shown: BOOLEAN;
BEGIN
  id := nameDef(shown);
  skip(Scan.equal);
  t := type();
  n := Scope.Declare(Scope.type, id, t, 0, shown, FALSE);
  WHILE i < nfor DO
    IF forName[i] = id THEN
      Scan.Ask(form(t) = Types.record, ePointer);
      Types.SetBase(forPointer[i], t)
    ELSE
      forName[k] := forName[i]; forPointer[k] := forPointer[i];
      INC(k)
    END;
    INC(i)
  END;
  nfor := k;
  skip(Scan.semicolon)
END typeDecl;

(* allot is the place of a variable of that type. *)
PROCEDURE allot(VAR p: Proc; t: INTEGER): INTEGER;
  VAR size, at: INTEGER;
BEGIN
  size := Types.RoundUp(Types.types[t].size);
  IF p.thing = 0 THEN
    at := vars;
    INC(vars, size);
    Scan.Ask(vars <= maxData, eData)
  ELSE
    at := 4 + 4 * p.words + p.bytes;
    INC(p.bytes, size);
    Scan.Ask(p.bytes <= maxFrame, eFrame)
  END
  RETURN at
END allot;

PROCEDURE variables(VAR p: Proc);
  VAR id, n, i, t, x: INTEGER; shown: BOOLEAN;
BEGIN
  REPEAT
    id := nameDef(shown);
    Scan.Ask(n < maxThings, eThings);
    listId[n] := id; listShown[n] := shown;
    INC(n)
  UNTIL ~may(Scan.comma);
  skip(Scan.colon);
  t := type();
  WHILE i < n DO
    x := allot(p, t);
    x := Scope.Declare(Scope.var, listId[i], t, x, listShown[i], FALSE);
    INC(i)
  END;
  skip(Scan.semicolon)
END variables;

(* params declares parameters of one type. *)
PROCEDURE params(VAR p: Proc);
  VAR ids: ARRAY 12 OF INTEGER; isVar: BOOLEAN; n, i, t, x, words, class: INTEGER;
BEGIN
  isVar := may(Scan.var);
  REPEAT
    t := ident();
    Scan.Ask(n < Gen.registers, eRegisters);
    ids[n] := t;
    INC(n)
  UNTIL ~may(Scan.comma);
  skip(Scan.colon);
  words := 1;
  IF may(Scan.array) THEN
    skip(Scan.of);
    t := typeName();
    t := Types.Open(t);
    words := 2
  ELSE t := typeName()
  END;
  class := Scope.par;
  IF ~isVar & Types.Scalar(t) THEN class := Scope.var END;
  WHILE i < n DO
    Scan.Ask(p.words + words <= Gen.registers, eRegisters);
    x := Scope.Declare(class, ids[i], t, 4 + 4 * p.words, FALSE, ~isVar & (class = Scope.par));
    INC(p.words, words);
    Scope.AddParam(isVar, t);
    INC(i)
  END
END params;

(* begins tells where a procedure begins. *)
PROCEDURE begins(VAR p: Proc);
BEGIN
  p.entry := Gen.pc;
  places[p.thing] := p.entry;
  IF Scope.things[p.thing].shown THEN entries[Scope.things[p.thing].val] := p.entry END
END begins;

PROCEDURE body(VAR p: Proc; t: INTEGER);
  VAR x: Gen.Item;
BEGIN
  Gen.Enter(p.words, p.bytes);
  IF may(Scan.begin) THEN statements END;
  Scan.Ask((Scan.sym = Scan.return) = (t # 0), eReturn);
  IF may(Scan.return) THEN
    expression(x);
    Scan.Ask(Types.Fits(t, x.typ), eUnfit);
    Gen.Load(x);
    IF t = Types.byte THEN Gen.Im(Gen.and, x.r, x.r, 255) END;
    Gen.Clear
  END;
  Gen.Leave(p.words, p.bytes)
END body;

PROCEDURE endName(id: INTEGER);
BEGIN
  skip(Scan.endWord);
  Scan.Ask((Scan.sym = Scan.name) & (Scan.id = id), eEndName);
  Scan.Get
END endName;

PROCEDURE declarations(VAR p: Proc);
  VAR over: INTEGER;

  PROCEDURE procedure;
    VAR p: Proc; id, val, t, first: INTEGER; shown: BOOLEAN;
  BEGIN
    deeper;
    Scan.Get;
    id := nameDef(shown);
    IF shown THEN
      Scan.Ask(nentries <= maxEntries, eEntries);
      val := nentries;
      INC(nentries)
    END;
    p.thing := Scope.Declare(Scope.proc, id, 0, val, shown, FALSE);
    Scope.Open;
    first := Scope.np;
    IF may(Scan.open) THEN
      IF Scan.sym # Scan.close THEN
        REPEAT params(p) UNTIL ~may(Scan.semicolon)
      END;
      skip(Scan.close);
      IF may(Scan.colon) THEN
        t := typeName();
        Scan.Ask(Types.Scalar(t), eScalar)
      END
    END;
    Scope.SetProc(p.thing, t, first);
    skip(Scan.semicolon);
    declarations(p);
    body(p, t);
    endName(id);
    Scope.Close;
    DEC(depth)
  END procedure;

BEGIN
  IF may(Scan.const) THEN
    WHILE Scan.sym = Scan.name DO constDecl END
  END;
  IF may(Scan.type) THEN
    inTypes := TRUE; nfor := 0;
    WHILE Scan.sym = Scan.name DO typeDecl END;
    Scan.Ask(nfor = 0, eUnknown);
    inTypes := FALSE
  END;
  IF may(Scan.var) THEN
    WHILE Scan.sym = Scan.name DO variables(p) END
  END;
  over := -1;
  IF (p.thing # 0) & (Scan.sym = Scan.procedure) THEN
    (* procedures within may call this one, whose body comes behind theirs *)
    begins(p);
    over := Gen.pc;
    Gen.Branch(Gen.always, 0)
  END;
  WHILE Scan.sym = Scan.procedure DO
    procedure;
    skip(Scan.semicolon)
  END;
  IF over >= 0 THEN Gen.FixJump(over)
  ELSIF p.thing # 0 THEN begins(p)
  END
END declarations;

PROCEDURE imports;
BEGIN
  REPEAT
    Scan.Ask(Scan.sym = Scan.name, eSymbol);
    Scan.Ask(Scan.id # name, eItself);
    Scope.Import(Scan.id);
    Scan.Get
  UNTIL ~may(Scan.comma);
  skip(Scan.semicolon)
END imports;

PROCEDURE module;
  VAR p: Proc;
BEGIN
  skip(Scan.module);
  name := ident();
  skip(Scan.semicolon);
  IF may(Scan.import) THEN imports END;
  declarations(p);
  entries[0] := Gen.pc;
  Gen.Enter(0, 0);
  IF may(Scan.begin) THEN statements END;
  Gen.Leave(0, 0);
  endName(name);
  Scan.Ask(Scan.sym = Scan.period, eSymbol)
END module;

(* the object file *)

PROCEDURE writeObject(f: INTEGER);
  VAR i, k: INTEGER;
BEGIN
  WRITE(f, "O"); WRITE(f, "1");
  Scope.WriteName(f, name);
  WRITEW(f, Scope.key);
  WRITE(f, Scope.Place(Scope.nm));
  WHILE i < Scope.nm DO
    INC(i);
    IF ~Scope.modules[i].hidden THEN
      Scope.WriteName(f, Scope.modules[i].name);
      WRITEW(f, Scope.modules[i].key)
    END
  END;
  WRITEW(f, vars);
  k := Types.RoundUp(textLen);
  WRITEW(f, k);
  i := 0;
  WHILE i < textLen DO WRITE(f, text[i]); INC(i) END;
  WHILE i < k DO WRITE(f, 0); INC(i) END;
  WRITEW(f, Gen.pc);
  i := 0;
  WHILE i < Gen.pc DO WRITEW(f, Gen.code[i]); INC(i) END;
  WRITE(f, nentries);
  i := 0;
  WHILE i < nentries DO WRITEW(f, entries[i]); INC(i) END;
  WRITEW(f, Gen.fixups);
  i := 0;
  WHILE i < Gen.fixups DO
    WRITEW(f, Gen.fixAt[i]);
    WRITE(f, Gen.fixModule[i]);
    WRITE(f, Gen.fixEntry[i]);
    INC(i)
  END
END writeObject;

PROCEDURE files;
  VAR f, g: INTEGER; s: ARRAY 20 OF CHAR;
BEGIN
  Scope.Face(name);
  Scan.Ask(vars + Types.RoundUp(textLen) <= maxData, eData);
  Scope.Name(name, "s", s);
  f := FRESH(s);
  Scope.WriteFace(f, name);
  Scope.Name(name, "o", s);
  g := FRESH(s);
  writeObject(g);
  REGISTER(f);
  REGISTER(g)
END files;

BEGIN
  nentries := 1;
  module;
  files;
  HALT(0)
END Main.
`
