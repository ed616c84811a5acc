package self

const typesText = `MODULE Types;
(* Types, by numbers. *)
IMPORT Scan;

CONST
  integer* = 1; boolean* = 2; char* = 3; byte* = 4; set* = 5; nil* = 6;
  array* = 1; record* = 2; pointer* = 3; open* = 4; (* forms *)
  maxSize* = 40000H;
  maxTypes = 200; maxFields = 2000; recordFields = 100;

TYPE
  Type* = RECORD form, base, len, size, first, last, count, module, ref: INTEGER END;
  Field* = RECORD name, off, typ, next: INTEGER END;

VAR
  types*: ARRAY 201 OF Type; (* by their numbers *)
  fields*: ARRAY 2001 OF Field;
  n*: INTEGER;
  all: INTEGER; (* fields *)
  stage: ARRAY 100 OF Field; (* of a type that is imported *)
  staged: INTEGER;

PROCEDURE RoundUp*(k: INTEGER): INTEGER;
RETURN (k + 3) DIV 4 * 4
END RoundUp;

PROCEDURE add(form, base, len, size: INTEGER): INTEGER;
BEGIN
  IF n >= maxTypes THEN Scan.Mark(64) END;
  INC(n);
  types[n].form := form; types[n].base := base; types[n].len := len; types[n].size := size
  RETURN n
END add;

PROCEDURE Array*(len, base: INTEGER): INTEGER;
BEGIN
  IF types[base].size > maxSize DIV len THEN Scan.Mark(30) END
  RETURN add(array, base, len, RoundUp(len * types[base].size))
END Array;

PROCEDURE Open*(base: INTEGER): INTEGER;
RETURN add(open, base, 0, 8)
END Open;

PROCEDURE Pointer*(base: INTEGER): INTEGER;
RETURN add(pointer, base, 0, 4)
END Pointer;

PROCEDURE SetBase*(p, base: INTEGER);
BEGIN
  types[p].base := base
END SetBase;

PROCEDURE Record*(): INTEGER;
RETURN add(record, 0, 0, 0)
END Record;

(* FieldOf is a record's field of a name; 0: none. *)
PROCEDURE FieldOf*(r, name: INTEGER): INTEGER;
  VAR i: INTEGER;
BEGIN
  i := types[r].first;
  WHILE (i # 0) & (fields[i].name # name) DO i := fields[i].next END
  RETURN i
END FieldOf;

PROCEDURE append(r, name, off, typ: INTEGER);
BEGIN
  INC(all);
  fields[all].name := name; fields[all].off := off; fields[all].typ := typ; fields[all].next := 0;
  IF types[r].first = 0 THEN types[r].first := all ELSE fields[types[r].last].next := all END;
  types[r].last := all;
  INC(types[r].count)
END append;

PROCEDURE Add*(r, name, typ: INTEGER);
  VAR at: INTEGER;
BEGIN
  IF FieldOf(r, name) # 0 THEN Scan.Mark(12) END;
  at := types[r].size;
  IF types[typ].size > 1 THEN at := RoundUp(at) END;
  IF at + types[typ].size > maxSize THEN Scan.Mark(30) END;
  IF (types[r].count >= recordFields) OR (all >= maxFields) THEN Scan.Mark(73) END;
  append(r, name, at, typ);
  types[r].size := at + types[typ].size
END Add;

PROCEDURE End*(r: INTEGER);
BEGIN
  types[r].size := RoundUp(types[r].size);
  IF types[r].size = 0 THEN types[r].size := 4 END
END End;

(* Stage keeps a field of the type that is imported next. *)
PROCEDURE Stage*(name, off, typ: INTEGER);
BEGIN
  stage[staged].name := name; stage[staged].off := off; stage[staged].typ := typ;
  INC(staged)
END Stage;

PROCEDURE Import*(form, base, len, size, module, ref: INTEGER);
  VAR t, i: INTEGER;
BEGIN
  IF all + staged > maxFields THEN Scan.Mark(73) END;
  t := add(form, base, len, size);
  types[t].module := module; types[t].ref := ref;
  WHILE i < staged DO append(t, stage[i].name, stage[i].off, stage[i].typ); INC(i) END;
  staged := 0
END Import;

PROCEDURE Scalar*(t: INTEGER): BOOLEAN;
RETURN (t <= nil) OR (types[t].form = pointer)
END Scalar;

PROCEDURE Integer*(t: INTEGER): BOOLEAN;
RETURN (t = integer) OR (t = byte)
END Integer;

(* Fits: may a value of the one type be put where the other one is asked for? *)
PROCEDURE Fits*(to, from: INTEGER): BOOLEAN;
  VAR fits: BOOLEAN;
BEGIN
  IF (to = nil) OR ~Scalar(to) THEN fits := FALSE
  ELSIF to = from THEN fits := TRUE
  ELSIF from = nil THEN fits := types[to].form = pointer
  ELSE fits := Integer(to) & Integer(from)
  END
  RETURN fits
END Fits;

BEGIN
  types[integer].size := 4; types[boolean].size := 1; types[char].size := 1;
  types[byte].size := 1; types[set].size := 4; types[nil].size := 4;
  n := nil
END Types.
`
