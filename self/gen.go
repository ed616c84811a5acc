package self

const genText = `MODULE Gen;
(* The part that makes code. *)
IMPORT Scan, Types;

CONST
  (* where an item's value is *)
  const* = 0;  (* a is it *)
  local* = 1;  (* in the frame, at a *)
  global* = 2; (* in the data of the module r, at a *)
  par* = 3;    (* in the frame, at a, stands an address; b on from there *)
  ind* = 4;    (* the register r has an address; a on from there *)
  reg* = 5;    (* in the register r *)
  cond* = 6;   (* the condition r holds; a: jumps that were made where not, b: where it does *)

  mov* = 0; lsl* = 1; asr* = 2; ror = 3; and* = 4; ann* = 5; ior* = 6; xor* = 7;
  add* = 8; sub* = 9; mul* = 10; div* = 11;

  mi = 0; eq* = 1; lt* = 5; le* = 6; always* = 7; ne* = 9; cc = 10; ge* = 13; gt* = 14;
  negate = 8;

  scratch* = 12; stack = 14; link = 15;
  fewPushed = 2; (* registers that are pushed and popped on the spot *)
  registers* = 12; maxCode = 16384; maxFixups = 8192;
  jumps = 1000000H; halves = 10000H; offsets = 100000H;
  callNew* = 17; callOld* = 18; callFresh* = 19;

TYPE
  Item* = RECORD mode, typ, a, b, r: INTEGER; fixed: BOOLEAN END;

VAR
  code*: ARRAY 16384 OF INTEGER;
  pc*: INTEGER;
  fixAt*: ARRAY 8192 OF INTEGER;
  fixModule*, fixEntry*: ARRAY 8192 OF BYTE;
  fixups*: INTEGER;
  rh*: INTEGER; (* registers below it are in use *)
  frame: INTEGER; (* bytes that were pushed on the stack since the procedure began *)
  pushes, pops: ARRAY 13 OF INTEGER; (* where so many registers are pushed, popped, for all to call; 0: nowhere as yet *)

PROCEDURE put(w: INTEGER);
BEGIN
  IF pc >= maxCode THEN Scan.Mark(66) END;
  code[pc] := w;
  INC(pc)
END put;

PROCEDURE Reg*(op, a, b, c: INTEGER);
BEGIN
  put(LSL(a, 24) + LSL(b, 20) + LSL(op, 16) + c)
END Reg;

PROCEDURE Im*(op, a, b, n: INTEGER);
BEGIN
  IF n < 0 THEN put(50000000H + LSL(a, 24) + LSL(b, 20) + LSL(op, 16) + n MOD halves)
  ELSE put(40000000H + LSL(a, 24) + LSL(b, 20) + LSL(op, 16) + n)
  END
END Im;

PROCEDURE upper(a, n: INTEGER);
BEGIN
  put(60000000H + LSL(a, 24) + n MOD halves)
END upper;

PROCEDURE load32(a, b, off: INTEGER);
BEGIN
  put(80000000H + LSL(a, 24) + LSL(b, 20) + off MOD offsets)
END load32;

PROCEDURE store32(a, b, off: INTEGER);
BEGIN
  put(0A0000000H + LSL(a, 24) + LSL(b, 20) + off MOD offsets)
END store32;

PROCEDURE Trap*(c, n: INTEGER);
BEGIN
  put(0D0000000H + LSL(c, 24) + LSL(n, 4) + 12)
END Trap;

PROCEDURE Sys*(n: INTEGER);
BEGIN
  Trap(always, n)
END Sys;

PROCEDURE Branch*(c, off: INTEGER);
BEGIN
  put(0E0000000H + LSL(c, 24) + off MOD jumps)
END Branch;

PROCEDURE Call*(off: INTEGER);
BEGIN
  put(0F0000000H + LSL(always, 24) + off MOD jumps)
END Call;

(* Fixup has the next word filled in by the loader. *)
PROCEDURE Fixup*(module, entry: INTEGER);
BEGIN
  IF fixups >= maxFixups THEN Scan.Mark(71) END;
  fixAt[fixups] := pc; fixModule[fixups] := module; fixEntry[fixups] := entry;
  INC(fixups)
END Fixup;

PROCEDURE Take*(): INTEGER;
BEGIN
  IF rh >= registers THEN Scan.Mark(65) END;
  INC(rh)
  RETURN rh - 1
END Take;

PROCEDURE Drop*;
BEGIN
  DEC(rh)
END Drop;

PROCEDURE Clear*;
BEGIN
  rh := 0
END Clear;

(* Back forgets the code from a place on. *)
PROCEDURE Back*(place: INTEGER);
BEGIN
  pc := place
END Back;

PROCEDURE small(n: INTEGER): BOOLEAN;
RETURN (n >= -65536) & (n <= 65535)
END small;

PROCEDURE LoadConst*(r, n: INTEGER);
BEGIN
  IF small(n) THEN Im(mov, r, 0, n)
  ELSE
    upper(r, ASR(n, 16));
    IF n MOD halves # 0 THEN Im(ior, r, r, n MOD halves) END
  END
END LoadConst;

PROCEDURE WithConst*(op, a, b, n: INTEGER);
BEGIN
  IF small(n) THEN Im(op, a, b, n)
  ELSE LoadConst(scratch, n); Reg(op, a, b, scratch)
  END
END WithConst;

PROCEDURE dataPlace(r, module: INTEGER);
BEGIN
  Fixup(module, 0);
  upper(r, 0);
  Im(ior, r, r, 0)
END dataPlace;

PROCEDURE move(typ, form, a, b, off: INTEGER);
BEGIN
  IF Types.types[typ].size = 1 THEN form := form + 10000000H END;
  put(form + LSL(a, 24) + LSL(b, 20) + off MOD offsets)
END move;

(* base is the register at which a variable stands, off the way from there; spare may be used for it. *)
PROCEDURE base(x: Item; spare: INTEGER; VAR off: INTEGER): INTEGER;
  VAR r: INTEGER;
BEGIN
  r := spare; off := x.a;
  IF x.mode = local THEN r := stack; off := x.a + frame
  ELSIF x.mode = global THEN dataPlace(spare, x.r)
  ELSIF x.mode = par THEN load32(spare, stack, x.a + frame); off := x.b
  ELSE r := x.r
  END
  RETURN r
END base;

PROCEDURE Fetch*(x: Item; r: INTEGER);
  VAR b, off: INTEGER;
BEGIN
  b := base(x, r, off);
  move(x.typ, 80000000H, r, b, off)
END Fetch;

PROCEDURE FixLinkTo*(l, to: INTEGER);
  VAR next: INTEGER;
BEGIN
  WHILE l # 0 DO
    next := code[l] MOD jumps;
    code[l] := code[l] - next + (to - l - 1) MOD jumps;
    l := next
  END
END FixLinkTo;

PROCEDURE FixLink*(l: INTEGER);
BEGIN
  FixLinkTo(l, pc)
END FixLink;

(* FixJump lets one jump go to the next word. *)
PROCEDURE FixJump*(at: INTEGER);
BEGIN
  code[at] := code[at] - code[at] MOD jumps + (pc - at - 1) MOD jumps
END FixJump;

PROCEDURE merged(l, k: INTEGER): INTEGER;
  VAR last: INTEGER;
BEGIN
  IF l # 0 THEN
    last := l;
    WHILE code[last] MOD jumps # 0 DO last := code[last] MOD jumps END;
    code[last] := code[last] + k;
    k := l
  END
  RETURN k
END merged;

PROCEDURE other(c: INTEGER): INTEGER;
RETURN (c + negate) MOD 16
END other;

PROCEDURE loadTruth(VAR x: Item);
BEGIN
  Branch(other(x.r), 2);
  FixLink(x.b);
  x.r := Take();
  Im(mov, x.r, 0, 1);
  Branch(always, 1);
  FixLink(x.a);
  Im(mov, x.r, 0, 0)
END loadTruth;

(* Load lets an item's value stand in a register, the last one that is in use. *)
PROCEDURE Load*(VAR x: Item);
  VAR n: INTEGER;
BEGIN
  IF x.mode # reg THEN
    IF x.mode = const THEN n := x.a; x.r := Take(); LoadConst(x.r, n)
    ELSIF x.mode = cond THEN loadTruth(x)
    ELSIF x.mode = ind THEN Fetch(x, x.r)
    ELSE n := Take(); Fetch(x, n); x.r := n
    END;
    x.mode := reg
  END
END Load;

(* Hold keeps a value as it is now, while others are reckoned. *)
PROCEDURE Hold*(VAR x: Item);
BEGIN
  IF x.mode # const THEN Load(x) END
END Hold;

PROCEDURE LoadCond*(VAR x: Item);
  VAR flags: BOOLEAN;
BEGIN
  IF x.mode # cond THEN
    IF x.mode = const THEN
      x.r := always;
      IF x.a = 0 THEN x.r := other(always) END
    ELSE
      flags := x.mode # reg;
      Load(x);
      IF ~flags THEN Im(sub, x.r, x.r, 0) END;
      DEC(rh);
      x.r := ne
    END;
    x.mode := cond; x.a := 0; x.b := 0
  END
END LoadCond;

(* Address lets a variable's address stand in a register. *)
PROCEDURE Address*(VAR x: Item);
  VAR r, b, off: INTEGER;
BEGIN
  r := x.r;
  IF x.mode # ind THEN r := Take() END;
  b := base(x, r, off);
  IF (b # r) OR (off # 0) THEN WithConst(add, r, b, off) END;
  x.mode := reg; x.r := r
END Address;

PROCEDURE Store*(x: Item; VAR y: Item);
  VAR b, off: INTEGER;
BEGIN
  Load(y);
  b := base(x, scratch, off);
  move(x.typ, 0A0000000H, y.r, b, off)
END Store;

(* StoreReg stores a register. *)
PROCEDURE StoreReg*(x: Item; r: INTEGER);
  VAR b, off: INTEGER;
BEGIN
  b := base(x, scratch, off);
  move(x.typ, 0A0000000H, r, b, off)
END StoreReg;

PROCEDURE Not*(VAR x: Item);
  VAR t: INTEGER;
BEGIN
  IF x.mode = const THEN x.a := 1 - x.a
  ELSE
    LoadCond(x);
    x.r := other(x.r);
    t := x.a; x.a := x.b; x.b := t
  END
END Not;

(* Unless jumps, if a condition does not hold. *)
PROCEDURE Unless*(VAR x: Item);
BEGIN
  LoadCond(x);
  Branch(other(x.r), x.a);
  x.a := pc - 1;
  FixLink(x.b);
  x.b := 0
END Unless;

(* When jumps, if a condition holds. *)
PROCEDURE When*(VAR x: Item);
BEGIN
  LoadCond(x);
  Branch(x.r, x.b);
  x.b := pc - 1;
  FixLink(x.a);
  x.a := 0
END When;

(* Both goes on with y behind Unless, Either behind When. *)
PROCEDURE Both*(VAR x, y: Item);
BEGIN
  LoadCond(y);
  x.a := merged(y.a, x.a); x.b := y.b; x.r := y.r
END Both;

PROCEDURE Either*(VAR x, y: Item);
BEGIN
  LoadCond(y);
  x.a := y.a; x.b := merged(y.b, x.b); x.r := y.r
END Either;

PROCEDURE Operate*(op: INTEGER; VAR x, y: Item);
BEGIN
  IF y.mode = const THEN
    Load(x);
    WithConst(op, x.r, x.r, y.a)
  ELSE
    Load(y);
    Load(x); (* a constant is loaded behind y *)
    DEC(rh);
    Reg(op, rh - 1, x.r, y.r);
    x.r := rh - 1
  END
END Operate;

PROCEDURE Negate*(VAR x: Item);
BEGIN
  IF x.mode = const THEN x.a := -x.a
  ELSE
    Load(x);
    Im(mov, scratch, 0, 0);
    Reg(sub, x.r, scratch, x.r)
  END
END Negate;

(* power is n, if x is 2 to the n; else 31. *)
PROCEDURE power(x: INTEGER): INTEGER;
  VAR n: INTEGER;
BEGIN
  WHILE (n < 31) & (LSL(1, n) # x) DO INC(n) END
  RETURN n
END power;

PROCEDURE Divide*(mod: BOOLEAN; VAR x, y: Item);
BEGIN
  IF (y.mode = const) & (power(y.a) < 31) THEN
    Load(x);
    IF mod THEN WithConst(and, x.r, x.r, y.a - 1)
    ELSE Im(asr, x.r, x.r, power(y.a))
    END
  ELSE
    IF y.mode # const THEN
      Load(y);
      Im(sub, scratch, y.r, 0);
      Trap(le, 6)
    END;
    Operate(div, x, y);
    IF mod THEN put(20000000H + LSL(x.r, 24)) END
  END
END Divide;

PROCEDURE condition(c: INTEGER; VAR x: Item);
BEGIN
  DEC(rh);
  x.mode := cond; x.r := c; x.a := 0; x.b := 0
END condition;

PROCEDURE Compare*(c: INTEGER; VAR x, y: Item);
BEGIN
  Operate(sub, x, y);
  condition(c, x)
END Compare;

PROCEDURE In*(VAR x, y: Item);
BEGIN
  Load(y);
  IF x.mode = const THEN Im(ror, y.r, y.r, (x.a + 1) MOD 32)
  ELSE
    Im(add, x.r, x.r, 1);
    Reg(ror, x.r, y.r, x.r);
    DEC(rh)
  END;
  condition(mi, x)
END In;

(* Single makes of a number the set of it. *)
PROCEDURE Single*(VAR x: Item);
BEGIN
  Load(x);
  Im(mov, scratch, 0, 1);
  Reg(lsl, x.r, scratch, x.r)
END Single;

PROCEDURE Odd*(VAR x: Item);
BEGIN
  Im(and, x.r, x.r, 1);
  condition(ne, x)
END Odd;

PROCEDURE Abs*(VAR x: Item);
BEGIN
  Im(sub, scratch, x.r, 0);
  Branch(ge, 2);
  Im(mov, scratch, 0, 0);
  Reg(sub, x.r, scratch, x.r)
END Abs;

PROCEDURE far(n: INTEGER);
BEGIN
  IF n > Types.maxSize THEN Scan.Mark(67) END
END far;

PROCEDURE Field*(VAR x: Item; off: INTEGER);
BEGIN
  IF x.mode = par THEN INC(x.b, off); far(x.b)
  ELSE INC(x.a, off); far(x.a)
  END
END Field;

PROCEDURE Deref*(VAR x: Item);
BEGIN
  Load(x);
  Trap(eq, 4);
  x.mode := ind; x.a := 0; x.fixed := FALSE
END Deref;

(* Index goes on to an array's element, of that size; length 0: an open array's. *)
PROCEDURE Index*(VAR x, y: Item; length, size: INTEGER);
  VAR n, b, r, off: INTEGER;
BEGIN
  IF (y.mode = const) & (length > 0) THEN
    n := y.a;
    IF (n < 0) OR (n >= length) THEN Trap(always, 1); n := 0 END;
    IF n > Types.maxSize DIV size THEN Scan.Mark(67) END;
    Field(x, n * size)
  ELSE
    Load(y);
    IF length > 0 THEN Im(sub, scratch, y.r, length)
    ELSE load32(scratch, stack, x.a + 4 + frame); Reg(sub, scratch, y.r, scratch)
    END;
    Trap(cc, 1);
    IF size > 1 THEN WithConst(mul, y.r, y.r, size) END;
    b := base(x, scratch, off);
    r := y.r;
    IF x.mode = ind THEN r := x.r; DEC(rh) END;
    Reg(add, r, b, y.r);
    x.mode := ind; x.r := r; x.a := off; x.b := 0
  END
END Index;

PROCEDURE back;
BEGIN
  put(0C0000000H + LSL(always, 24) + link)
END back;

PROCEDURE push(k: INTEGER);
  VAR i: INTEGER;
BEGIN
  Im(sub, stack, stack, 4 * k);
  WHILE i < k DO store32(i, stack, 4 * i); INC(i) END
END push;

PROCEDURE pop(k: INTEGER);
  VAR i: INTEGER;
BEGIN
  WHILE i < k DO load32(i, stack, 4 * i); INC(i) END;
  Im(add, stack, stack, 4 * k)
END pop;

(* share calls what pushes or pops so many registers, and makes it at first, so that many calls need few words. *)
PROCEDURE share(VAR place: INTEGER; k: INTEGER; pushes: BOOLEAN);
  VAR over: INTEGER;
BEGIN
  IF place = 0 THEN
    over := pc;
    Branch(always, 0);
    place := pc;
    IF pushes THEN push(k) ELSE pop(k) END;
    back;
    FixJump(over)
  END;
  Call(place - pc - 1)
END share;

(* Prepare pushes the registers that are in use, ahead of a call. *)
PROCEDURE Prepare*(): INTEGER;
  VAR k: INTEGER;
BEGIN
  k := rh;
  IF k > fewPushed THEN share(pushes[k], k, TRUE)
  ELSIF k > 0 THEN push(k)
  END;
  INC(frame, 4 * k);
  rh := 0
  RETURN k
END Prepare;

(* Resume pops them again; a call's answer stands behind them. *)
PROCEDURE Resume*(k: INTEGER; VAR x: Item);
BEGIN
  rh := k;
  x.r := Take();
  IF k > 0 THEN Reg(mov, x.r, 0, 0) END;
  IF k > fewPushed THEN share(pops[k], k, FALSE)
  ELSIF k > 0 THEN pop(k)
  END;
  DEC(frame, 4 * k);
  x.mode := reg
END Resume;

(* Enter begins a procedure: its parameters, so many words, and its variables. *)
PROCEDURE Enter*(words, bytes: INTEGER);
  VAR i, first: INTEGER;
BEGIN
  first := 4 + 4 * words;
  Im(sub, stack, stack, first + bytes);
  store32(link, stack, 0);
  WHILE i < words DO store32(i, stack, 4 + 4 * i); INC(i) END;
  IF bytes > 32 THEN
    Im(mov, 0, 0, 0);
    Im(add, 1, stack, first);
    Im(add, 2, 1, bytes);
    store32(0, 1, 0);
    Im(add, 1, 1, 4);
    Reg(sub, 3, 1, 2);
    Branch(ne, -4)
  ELSIF bytes > 0 THEN
    Im(mov, scratch, 0, 0);
    i := 0;
    WHILE i < bytes DO store32(scratch, stack, first + i); INC(i, 4) END
  END
END Enter;

PROCEDURE Leave*(words, bytes: INTEGER);
BEGIN
  load32(link, stack, 0);
  Im(add, stack, stack, 4 + 4 * words + bytes);
  back
END Leave;

END Gen.
`
