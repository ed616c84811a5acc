package self

const scopeText = `MODULE Scope;
(* Names, and what they stand for; symbol files. *)
IMPORT Scan, Types;

CONST
  const* = 1; type* = 2; var* = 3; proc* = 4; module* = 5; par* = 6; std* = 7; (* classes *)
  firstName = 29; basicTypes = 5; predeclared* = 28;
  maxThings = 900; maxModules = 12; maxFace = 65535; maxEntries = 200; maxParams = 12;
  recordFields = 100; maxTypes = 200; firstType = 16; maxLength = 65535;
  outer = 0; own = 1; (* lists: of the predeclared things; of the module *)
  heads = 64;
  keyStart = 811C9DC5H; keyFactor = 1000193H;

TYPE
  Thing* = RECORD
    class, name, typ, level, val, module, first, count, list, next, under: INTEGER;
    shown, fixed: BOOLEAN
  END;
  Module* = RECORD
    name, key, file, imports, types, objects: INTEGER; (* the last three: how many bytes are left where they begin *)
    ntypes, firstType, from, to, nimps: INTEGER;
    hidden, done: BOOLEAN;
    imps, keys: ARRAY 12 OF INTEGER
  END;

VAR
  things*: ARRAY 930 OF Thing; (* by their numbers *)
  n, level*: INTEGER;
  pvar*: ARRAY 11000 OF BOOLEAN; (* parameters *)
  ptyp*: ARRAY 11000 OF INTEGER;
  np*: INTEGER;
  top: ARRAY 700 OF INTEGER; (* what a name stands for *)
  first, last: ARRAY 40 OF INTEGER; (* of a list *)
  modules*: ARRAY 13 OF Module;
  nm*: INTEGER;
  (* a symbol file that is read *)
  file, left: INTEGER;
  id: ARRAY 16 OF CHAR;
  refModule, refIndex: INTEGER;
  nimps, ntypes: INTEGER;
  forms: ARRAY 200 OF INTEGER;
  used: ARRAY 200 OF BOOLEAN; (* not in parameters alone *)
  entries: ARRAY 201 OF BOOLEAN;
  seen: ARRAY 900 OF ARRAY 16 OF CHAR; (* names that have to be unlike *)
  seenNext: ARRAY 900 OF INTEGER;
  seenHead: ARRAY 64 OF INTEGER;
  nseen: INTEGER;
  (* the symbol file that is made *)
  face: ARRAY 65535 OF BYTE;
  size, key*: INTEGER;
  place: ARRAY 201 OF INTEGER; (* of types, by their numbers *)
  order: ARRAY 201 OF INTEGER; (* numbers of types, by their places *)
  nplaces: INTEGER;
  imports: ARRAY 13 OF INTEGER; (* modules, by their places *)
  importPlace: ARRAY 13 OF INTEGER;
  nimports: INTEGER;

(* things *)

PROCEDURE new(class, name, typ, val: INTEGER): INTEGER;
BEGIN
  INC(n);
  things[n].class := class; things[n].name := name; things[n].typ := typ; things[n].val := val
  RETURN n
END new;

PROCEDURE put(x, list: INTEGER);
BEGIN
  things[x].list := list;
  things[x].under := top[things[x].name];
  top[things[x].name] := x;
  things[x].next := 0;
  IF first[list] = 0 THEN first[list] := x ELSE things[last[list]].next := x END;
  last[list] := x
END put;

PROCEDURE Open*;
BEGIN
  INC(level);
  first[level + own] := 0
END Open;

PROCEDURE Close*;
  VAR x: INTEGER;
BEGIN
  x := first[level + own];
  WHILE x # 0 DO
    top[things[x].name] := things[x].under;
    x := things[x].next
  END;
  DEC(level)
END Close;

PROCEDURE full(): BOOLEAN;
RETURN n - predeclared >= maxThings
END full;

PROCEDURE Declare*(class, name, typ, val: INTEGER; shown, fixed: BOOLEAN): INTEGER;
  VAR x: INTEGER;
BEGIN
  x := top[name];
  IF (x # 0) & (things[x].list = level + own) THEN Scan.Mark(12) END;
  IF full() THEN Scan.Mark(63) END;
  x := new(class, name, typ, val);
  things[x].level := level; things[x].shown := shown; things[x].fixed := fixed;
  put(x, level + own)
  RETURN x
END Declare;

(* Find is what a name stands for; 0: nothing. *)
PROCEDURE Find*(name: INTEGER): INTEGER;
RETURN top[name]
END Find;

PROCEDURE AddParam*(isVar: BOOLEAN; typ: INTEGER);
BEGIN
  pvar[np] := isVar; ptyp[np] := typ;
  INC(np)
END AddParam;

(* SetProc tells what a procedure tells, and where its parameters begin. *)
PROCEDURE SetProc*(x, typ, begin: INTEGER);
BEGIN
  things[x].typ := typ;
  things[x].first := begin; things[x].count := np - begin
END SetProc;

(* names that have to be unlike *)

PROCEDURE forget;
  VAR i: INTEGER;
BEGIN
  WHILE i < heads DO seenHead[i] := 0; INC(i) END;
  nseen := 0
END forget;

PROCEDURE bad;
BEGIN
  Scan.Mark(26)
END bad;

PROCEDURE want(ok: BOOLEAN);
BEGIN
  IF ~ok THEN bad END
END want;

PROCEDURE unlike(s: ARRAY OF CHAR);
  VAR h, k, i: INTEGER;
BEGIN
  h := Scan.Hash(s) MOD heads;
  k := seenHead[h];
  WHILE k # 0 DO
    want(~Scan.Same(seen[k - 1], s));
    k := seenNext[k - 1]
  END;
  WHILE s[i] # 0X DO seen[nseen][i] := s[i]; INC(i) END;
  seen[nseen][i] := 0X;
  seenNext[nseen] := seenHead[h];
  INC(nseen);
  seenHead[h] := nseen
END unlike;

(* reading symbol files *)

PROCEDURE byte(): INTEGER;
  VAR b: BYTE;
BEGIN
  IF left < 1 THEN bad END;
  DEC(left);
  READ(file, b)
  RETURN b
END byte;

PROCEDURE int(): INTEGER;
  VAR w: INTEGER;
BEGIN
  IF left < 4 THEN bad END;
  DEC(left, 4);
  READW(file, w)
  RETURN w
END int;

PROCEDURE truth(): BOOLEAN;
  VAR b: INTEGER;
BEGIN
  b := byte();
  want(b <= 1)
  RETURN b = 1
END truth;

PROCEDURE isLetter(c: CHAR): BOOLEAN;
RETURN (c >= "A") & (c <= "Z") OR (c >= "a") & (c <= "z")
END isLetter;

PROCEDURE ident;
  VAR k, i: INTEGER;
BEGIN
  k := byte();
  want((k >= 1) & (k <= 15));
  WHILE i < k DO
    id[i] := CHR(byte());
    want(isLetter(id[i]) OR (i > 0) & (id[i] >= "0") & (id[i] <= "9"));
    INC(i)
  END;
  id[i] := 0X
END ident;

PROCEDURE seek(m, rest: INTEGER);
BEGIN
  file := modules[m].file;
  left := rest;
  SEEK(file, LENGTH(file) - rest)
END seek;

PROCEDURE ref;
BEGIN
  refModule := byte();
  refIndex := byte()
END ref;

(* checkRef: does a reference lead to something? *)
PROCEDURE checkRef(param: BOOLEAN);
BEGIN
  ref;
  IF refModule > 0 THEN want((refModule <= nimps) & (refIndex >= firstType))
  ELSIF refIndex < firstType THEN want((refIndex >= Types.integer) & (refIndex <= Types.nil))
  ELSE
    want(refIndex - firstType < ntypes);
    IF ~param THEN used[refIndex - firstType] := TRUE END
  END
END checkRef;

PROCEDURE checkSize;
  VAR k: INTEGER;
BEGIN
  k := int();
  want((k >= 1) & (k <= Types.maxSize))
END checkSize;

PROCEDURE checkOffset;
  VAR k: INTEGER;
BEGIN
  k := int();
  want((k >= 0) & (k <= Types.maxSize))
END checkOffset;

PROCEDURE checkImports(name: INTEGER);
  VAR i, k: INTEGER;
BEGIN
  nimps := byte();
  want(nimps <= maxModules);
  forget;
  unlike(Scan.spell[name]);
  WHILE i < nimps DO
    ident; unlike(id);
    k := int();
    INC(i)
  END
END checkImports;

PROCEDURE checkType(i: INTEGER);
  VAR k, j: INTEGER;
BEGIN
  forms[i] := byte();
  want((forms[i] >= Types.array) & (forms[i] <= Types.open));
  IF forms[i] = Types.record THEN
    checkSize;
    k := byte();
    want(k <= recordFields);
    forget;
    WHILE j < k DO
      ident; unlike(id);
      checkOffset;
      checkRef(FALSE);
      INC(j)
    END
  ELSE
    IF forms[i] = Types.array THEN
      k := int();
      want((k >= 1) & (k <= maxLength));
      checkSize
    END;
    checkRef(FALSE)
  END
END checkType;

PROCEDURE checkConst;
  VAR k: INTEGER;
BEGIN
  k := int();
  want((refModule = 0) & (refIndex <= Types.set) & (refIndex # Types.byte));
  IF refIndex = Types.boolean THEN want((k >= 0) & (k <= 1))
  ELSIF refIndex = Types.char THEN want((k >= 0) & (k <= 255))
  END
END checkConst;

PROCEDURE checkProc;
  VAR k, i: INTEGER; isVar: BOOLEAN;
BEGIN
  k := byte();
  want((k >= 1) & (k <= maxEntries));
  want(~entries[k]);
  entries[k] := TRUE;
  k := byte();
  want(k <= maxParams);
  WHILE i < k DO
    isVar := truth();
    checkRef(TRUE);
    INC(i)
  END
END checkProc;

PROCEDURE checkObject;
  VAR class: INTEGER;
BEGIN
  class := byte();
  want((class >= const) & (class <= proc));
  ident; unlike(id);
  IF (class = proc) & (left >= 2) THEN
    ref;
    IF (refModule # 0) OR (refIndex # 0) THEN
      INC(left, 2); SEEK(file, LENGTH(file) - left);
      checkRef(FALSE)
    END
  ELSE checkRef(FALSE)
  END;
  IF class = const THEN checkConst
  ELSIF class = var THEN checkOffset
  ELSIF class = proc THEN checkProc
  END
END checkObject;

PROCEDURE checkKey(key: INTEGER);
  VAR k, i: INTEGER; b: BYTE;
BEGIN
  k := keyStart;
  i := left;
  WHILE i > 0 DO
    READ(file, b);
    k := k * keyFactor + b + 1;
    DEC(i)
  END;
  want(k = key);
  SEEK(file, LENGTH(file) - left)
END checkKey;

(* check reads all of the symbol file of module m: it must be a face's, of that name. *)
PROCEDURE check(m: INTEGER);
  VAR i, k: INTEGER;
BEGIN
  want(byte() = ORD("S"));
  want(byte() = ORD("1"));
  ident;
  want(Scan.Same(id, Scan.spell[modules[m].name]));
  modules[m].key := int();
  checkKey(modules[m].key);
  modules[m].imports := left;
  checkImports(modules[m].name);
  modules[m].types := left;
  ntypes := byte();
  want(ntypes <= maxTypes);
  WHILE i < maxTypes DO used[i] := FALSE; INC(i) END;
  i := 0;
  WHILE i < ntypes DO checkType(i); INC(i) END;
  modules[m].objects := left;
  k := int();
  want((k >= 0) & (k <= maxThings));
  forget;
  i := 0;
  WHILE i <= maxEntries DO entries[i] := FALSE; INC(i) END;
  i := 0;
  WHILE i < k DO checkObject; INC(i) END;
  want(left = 0);
  i := 0;
  WHILE i < ntypes DO want(~used[i] OR (forms[i] # Types.open)); INC(i) END;
  modules[m].ntypes := ntypes
END check;

(* Name is that of a module's file; it ends with s, or o. *)
PROCEDURE Name*(name: INTEGER; ending: CHAR; VAR s: ARRAY OF CHAR);
  VAR i: INTEGER;
BEGIN
  WHILE Scan.spell[name][i] # 0X DO s[i] := Scan.spell[name][i]; INC(i) END;
  s[i] := "."; s[i + 1] := ending; s[i + 2] := 0X
END Name;

(* read reads the face of a module that was not read as yet: its number. *)
PROCEDURE read(name: INTEGER): INTEGER;
  VAR s: ARRAY 20 OF CHAR;
BEGIN
  IF nm >= maxModules THEN Scan.Mark(69) END;
  Name(name, "s", s);
  file := OLD(s);
  want(file # 0);
  left := LENGTH(file);
  want(left <= maxFace);
  INC(nm);
  modules[nm].name := name; modules[nm].file := file; modules[nm].hidden := TRUE;
  check(nm)
  RETURN nm
END read;

PROCEDURE moduleOf(name: INTEGER): INTEGER;
  VAR m: INTEGER;
BEGIN
  m := nm;
  WHILE (m > 0) & (modules[m].name # name) DO DEC(m) END
  RETURN m
END moduleOf;

(* typeOf is the type that the reference leads to, which was read last. *)
PROCEDURE typeOf(m: INTEGER): INTEGER;
  VAR t: INTEGER;
BEGIN
  t := refIndex;
  IF refModule > 0 THEN
    m := modules[m].imps[refModule - 1];
    want(t - firstType < modules[m].ntypes);
    t := modules[m].firstType + t - firstType;
    want(Types.types[t].form # Types.open)
  ELSIF t >= firstType THEN t := modules[m].firstType + t - firstType
  END
  RETURN t
END typeOf;

PROCEDURE takeType(m, i: INTEGER);
  VAR form, base, len, size, k, j, off, typ: INTEGER;
BEGIN
  form := byte();
  IF form = Types.record THEN
    size := int();
    k := byte();
    WHILE j < k DO
      ident;
      off := int();
      ref;
      typ := typeOf(m);
      Types.Stage(Scan.Intern(id), off, typ);
      INC(j)
    END
  ELSE
    IF form = Types.array THEN len := int(); size := int()
    ELSIF form = Types.open THEN size := 8
    ELSE size := 4
    END;
    ref;
    base := typeOf(m)
  END;
  Types.Import(form, base, len, size, m, i)
END takeType;

(* need takes what a module's face needs, and its types. *)
PROCEDURE need(m: INTEGER);
  VAR i: INTEGER;

  PROCEDURE hidden(name, key: INTEGER): INTEGER;
    VAR k: INTEGER;
  BEGIN
    k := moduleOf(name);
    IF k # 0 THEN want(modules[k].done & (modules[k].key = key))
    ELSE
      k := read(name);
      want(modules[k].key = key);
      need(k);
      modules[k].done := TRUE
    END
    RETURN k
  END hidden;

BEGIN
  seek(m, modules[m].imports);
  modules[m].nimps := byte();
  WHILE i < modules[m].nimps DO
    ident;
    modules[m].imps[i] := Scan.Intern(id);
    modules[m].keys[i] := int();
    INC(i)
  END;
  i := 0;
  WHILE i < modules[m].nimps DO
    modules[m].imps[i] := hidden(modules[m].imps[i], modules[m].keys[i]);
    INC(i)
  END;
  modules[m].firstType := Types.n + 1;
  seek(m, modules[m].types);
  i := byte();
  i := 0;
  WHILE i < modules[m].ntypes DO takeType(m, i); INC(i) END
END need;

(* take takes a thing that a module shows; of a hidden one it just looks at the types that are named. *)
PROCEDURE take(m: INTEGER; look: BOOLEAN);
  VAR class, typ, val, k, i, x: INTEGER; isVar: BOOLEAN;
BEGIN
  class := byte();
  ident;
  ref;
  typ := typeOf(m);
  x := np;
  IF (class = const) OR (class = var) THEN val := int()
  ELSIF class = proc THEN
    val := byte();
    k := byte();
    WHILE i < k DO
      isVar := truth();
      ref;
      AddParam(isVar, typeOf(m));
      INC(i)
    END
  END;
  IF look THEN np := x
  ELSE
    i := x;
    IF full() THEN Scan.Mark(63) END;
    x := new(class, Scan.Intern(id), typ, val);
    things[x].module := m; things[x].fixed := class = var;
    things[x].first := i; things[x].count := k
  END
END take;

PROCEDURE objects(m: INTEGER; look: BOOLEAN);
  VAR k: INTEGER;
BEGIN
  seek(m, modules[m].objects);
  k := int();
  WHILE k > 0 DO take(m, look); DEC(k) END
END objects;

PROCEDURE Import*(name: INTEGER);
  VAR m, x, were: INTEGER;
BEGIN
  x := top[name];
  IF (x # 0) & (things[x].list = own) THEN Scan.Mark(27) END;
  IF full() THEN Scan.Mark(63) END;
  were := nm;
  m := moduleOf(name);
  IF m = 0 THEN
    m := read(name);
    need(m);
    modules[m].done := TRUE
  END;
  modules[m].hidden := FALSE;
  modules[m].from := n + 1;
  objects(m, FALSE);
  modules[m].to := n;
  x := Declare(module, name, 0, m, FALSE, FALSE);
  things[x].module := m;
  WHILE were < nm DO
    INC(were);
    IF modules[were].hidden THEN objects(were, TRUE) END
  END
END Import;

(* FindIn is what a module exports under a name; 0: nothing. *)
PROCEDURE FindIn*(m, name: INTEGER): INTEGER;
  VAR x: INTEGER;
BEGIN
  x := modules[m].from;
  WHILE (x <= modules[m].to) & (things[x].name # name) DO INC(x) END;
  IF x > modules[m].to THEN x := 0 END
  RETURN x
END FindIn;

(* Place is a module's among the imports of the object. *)
PROCEDURE Place*(m: INTEGER): INTEGER;
  VAR k, i: INTEGER;
BEGIN
  WHILE i < m DO
    INC(i);
    IF ~modules[i].hidden THEN INC(k) END
  END
  RETURN k
END Place;

(* making the symbol file *)

PROCEDURE out(b: INTEGER);
BEGIN
  IF size < maxFace THEN face[size] := b END;
  key := key * keyFactor + b MOD 256 + 1;
  INC(size)
END out;

PROCEDURE outInt(w: INTEGER);
BEGIN
  out(w); out(ASR(w, 8)); out(ASR(w, 16)); out(ASR(w, 24))
END outInt;

PROCEDURE length(name: INTEGER): INTEGER;
  VAR i: INTEGER;
BEGIN
  WHILE Scan.spell[name][i] # 0X DO INC(i) END
  RETURN i
END length;

PROCEDURE outName(name: INTEGER);
  VAR i, k: INTEGER;
BEGIN
  k := length(name);
  out(k);
  WHILE i < k DO out(ORD(Scan.spell[name][i])); INC(i) END
END outName;

(* meet gives places to the types that a type leads to. *)
PROCEDURE meet(t, name: INTEGER);
  VAR i, m: INTEGER;
BEGIN
  IF t > Types.nil THEN
    m := Types.types[t].module;
    IF m # 0 THEN
      IF importPlace[m] = 0 THEN
        IF modules[m].name = name THEN Scan.Mark(63) END;
        imports[nimports] := m;
        INC(nimports);
        importPlace[m] := nimports
      END
    ELSIF place[t] = 0 THEN
      place[t] := firstType + nplaces;
      order[nplaces] := t;
      INC(nplaces);
      meet(Types.types[t].base, name);
      i := Types.types[t].first;
      WHILE i # 0 DO meet(Types.fields[i].typ, name); i := Types.fields[i].next END
    END
  END
END meet;

PROCEDURE outRef(t: INTEGER);
BEGIN
  IF t <= Types.nil THEN out(0); out(t)
  ELSIF Types.types[t].module # 0 THEN out(importPlace[Types.types[t].module]); out(firstType + Types.types[t].ref)
  ELSE out(0); out(place[t])
  END
END outRef;

PROCEDURE outType(t: INTEGER);
  VAR i: INTEGER;
BEGIN
  out(Types.types[t].form);
  IF Types.types[t].form = Types.record THEN
    outInt(Types.types[t].size);
    out(Types.types[t].count);
    i := Types.types[t].first;
    WHILE i # 0 DO
      outName(Types.fields[i].name);
      outInt(Types.fields[i].off);
      outRef(Types.fields[i].typ);
      i := Types.fields[i].next
    END
  ELSE
    IF Types.types[t].form = Types.array THEN outInt(Types.types[t].len); outInt(Types.types[t].size) END;
    outRef(Types.types[t].base)
  END
END outType;

PROCEDURE outObject(x: INTEGER);
  VAR i: INTEGER;
BEGIN
  out(things[x].class);
  outName(things[x].name);
  outRef(things[x].typ);
  IF (things[x].class = const) OR (things[x].class = var) THEN outInt(things[x].val)
  ELSIF things[x].class = proc THEN
    out(things[x].val);
    out(things[x].count);
    i := things[x].first;
    WHILE i < things[x].first + things[x].count DO
      out(ORD(pvar[i]));
      outRef(ptyp[i]);
      INC(i)
    END
  END
END outObject;

(* Face makes the symbol file, and its key. *)
PROCEDURE Face*(name: INTEGER);
  VAR x, i, shown: INTEGER;
BEGIN
  x := first[own];
  WHILE x # 0 DO
    IF things[x].shown THEN
      INC(shown);
      meet(things[x].typ, name);
      i := things[x].first;
      WHILE i < things[x].first + things[x].count DO meet(ptyp[i], name); INC(i) END
    END;
    x := things[x].next
  END;
  key := keyStart;
  out(nimports);
  i := 0;
  WHILE i < nimports DO outName(modules[imports[i]].name); outInt(modules[imports[i]].key); INC(i) END;
  out(nplaces);
  i := 0;
  WHILE i < nplaces DO outType(order[i]); INC(i) END;
  outInt(shown);
  x := first[own];
  WHILE x # 0 DO
    IF things[x].shown THEN outObject(x) END;
    x := things[x].next
  END;
  IF size + 2 + 1 + length(name) + 4 > maxFace THEN Scan.Mark(74) END
END Face;

PROCEDURE WriteName*(f, name: INTEGER);
  VAR i, k: INTEGER;
BEGIN
  k := length(name);
  WRITE(f, k);
  WHILE i < k DO WRITE(f, Scan.spell[name][i]); INC(i) END
END WriteName;

PROCEDURE WriteFace*(f, name: INTEGER);
  VAR i: INTEGER;
BEGIN
  WRITE(f, "S"); WRITE(f, "1");
  WriteName(f, name);
  WRITEW(f, key);
  WHILE i < size DO WRITE(f, face[i]); INC(i) END
END WriteFace;

PROCEDURE init;
  VAR i, x: INTEGER;
BEGIN
  WHILE i < predeclared DO
    IF i < basicTypes THEN x := new(type, firstName + i, i + 1, 0)
    ELSE x := new(std, firstName + i, 0, i - basicTypes + 1)
    END;
    put(x, outer);
    INC(i)
  END
END init;

BEGIN
  init
END Scope.
`
