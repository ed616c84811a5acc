/-
  The contract of operate of package risc.
-/
import Derived.Test.YtlgdlaohfkgkfaaGreatRiscB
import Derived.Test.YtlgdlaohfkgkfaaGreatWordA
import Derived.Laws.Closers25b
namespace Go.Proofs.YtlgdlaohfkgkfaaGreat
open Go.ChangeShapes Go.WideShapes Go.ChangeAt Go.RowKit
set_option linter.unusedVariables false

theorem lsh_bd (a b : Int) : 0 ≤ lsh a b ∧ lsh a b ≤ 4294967295 := lshN_bd _ _
theorem ash_bd (a b : Int) : 0 ≤ ash a b ∧ ash a b ≤ 4294967295 := ashN_bd _ _
theorem trn_bd (a b : Int) (h0 : 0 ≤ a) (h1 : a ≤ 4294967295) : 0 ≤ trn a b ∧ trn a b ≤ 4294967295 := trnN_bd _ _ h0 h1 (by omega)
/-- an operation's number, with carry and overflow, or H, where it has them -/
def oprC (c : Cpu) (op : Int) (u : Bool) (A B : Nat) (n : Int) : Option Cpu :=
  if op = 0 then some (ldC c A n)
  else if op = 1 then some (ldC c A (lsh (c.r B) n))
  else if op = 2 then some (ldC c A (ash (c.r B) n))
  else if op = 3 then some (ldC c A (trn (c.r B) n))
  else if op = 4 then some (ldC c A (bits BinOp.and IntKind.u32 (c.r B) n))
  else if op = 5 then some (ldC c A (bits BinOp.andNot IntKind.u32 (c.r B) n))
  else if op = 6 then some (ldC c A (bits BinOp.or IntKind.u32 (c.r B) n))
  else if op = 7 then some (ldC c A (bits BinOp.xor IntKind.u32 (c.r B) n))
  else if op = 8 then some (ldC { c with c := decide (4294967296 ≤ c.r B + n + bit (u && c.c)), v := out32 (wrap32 (c.r B) + wrap32 n + bit (u && c.c)) } A (w32 (c.r B + n + bit (u && c.c))))
  else if op = 9 then some (ldC { c with c := decide (c.r B - n - bit (u && c.c) < 0), v := out32 (wrap32 (c.r B) - wrap32 n - bit (u && c.c)) } A (w32 (c.r B - n - bit (u && c.c))))
  else if op = 10 then (if u then some (ldC { c with h := c.r B * n / 4294967296 } A (w32 (c.r B * n))) else some (ldC { c with h := w32 (wrap32 (c.r B) * wrap32 n / 4294967296) } A (w32 (wrap32 (c.r B) * wrap32 n))))
  else if wrap32 n ≤ 0 then none else some (ldC { c with h := wrap32 (c.r B) % wrap32 n } A (w32 (wrap32 (c.r B) / wrap32 n)))
/-- what operate tells and leaves -/
def OprIs (p : Nat) (c : Cpu) (o : Option Cpu) (w : World) (e : Ending) (w' : World) : Prop :=
  match o with
  | some c' => e = .returned (.int .i64 0) ∧ Turn p (.cells (cpuCells c') 53 (0, 0)) w w'
  | none => e = .returned (.int .i64 5) ∧ Turn p (.cells (cpuCells c) 53 (0, 0)) w w'

set_option maxHeartbeats 4000000 in
theorem opr_0 (p q : Nat) (c : Cpu) (u : Bool) (A B : Nat) (hA : A < 16) (hB : B < 16) (n : Int) (n0 : 0 ≤ n) (n1 : n ≤ 4294967295) (b0 : 0 ≤ c.r B) (b1 : c.r B ≤ 4294967295) (w : World) (hb : w.heap[p]? = some (.cells (cpuCells c) 53 (0, 0))) (ku : w.cell? ⟨q, 1, none⟩ = some (.bool u)) (ka : w.cell? ⟨q, 3, none⟩ = some (.int .i64 A)) (kb : w.cell? ⟨q, 4, none⟩ = some (.int .i64 B)) (ko : w.cell? ⟨q, 6, none⟩ = some (.int .i64 0)) :
    Calls Tryz.prog 91 #[.pointer (some ⟨p, 0, none⟩), .pointer (some ⟨q, 0, none⟩), .int .u32 n] w (OprIs p c (oprC c 0 u A B n) w) := by
  have hr := (cell_at hb B).trans (reg_cell c B hB)
  have hB1 : (B : Int) < 16 := by omega
  obtain ⟨rb, hrb⟩ : ∃ rb, c.r B = rb := ⟨_, rfl⟩
  rw [hrb] at hr b0 b1
  have HR := Lib.hid hrb
  have T := Lib.hid (Turn.refl hb)
  have hx := And.intro n0 n1
  have e := Lib.hid (show oprC c 0 u A B n = some (ldC c A (n)) by first | rfl | (rw [← hrb]; rfl))
  clear hb hrb
  go_enter Tryz.func91, Tryz.ntmps91
  go_wp2
  go_quiet (fail)
  go_wp2_with fail
  refine (load_any p c A _ hA hx.1 hx.2 _ (T.out.drewN _).at_).mono ?_
  rintro e2 w2 ⟨rfl, tw⟩
  go_wp2
  go_ret
  rw [e.out]
  exact ⟨rfl, ((T.out.drewN _).trans tw)⟩

set_option maxHeartbeats 4000000 in
theorem opr_1 (p q : Nat) (c : Cpu) (u : Bool) (A B : Nat) (hA : A < 16) (hB : B < 16) (n : Int) (n0 : 0 ≤ n) (n1 : n ≤ 4294967295) (b0 : 0 ≤ c.r B) (b1 : c.r B ≤ 4294967295) (w : World) (hb : w.heap[p]? = some (.cells (cpuCells c) 53 (0, 0))) (ku : w.cell? ⟨q, 1, none⟩ = some (.bool u)) (ka : w.cell? ⟨q, 3, none⟩ = some (.int .i64 A)) (kb : w.cell? ⟨q, 4, none⟩ = some (.int .i64 B)) (ko : w.cell? ⟨q, 6, none⟩ = some (.int .i64 1)) :
    Calls Tryz.prog 91 #[.pointer (some ⟨p, 0, none⟩), .pointer (some ⟨q, 0, none⟩), .int .u32 n] w (OprIs p c (oprC c 1 u A B n) w) := by
  have hr := (cell_at hb B).trans (reg_cell c B hB)
  have hB1 : (B : Int) < 16 := by omega
  obtain ⟨rb, hrb⟩ : ∃ rb, c.r B = rb := ⟨_, rfl⟩
  rw [hrb] at hr b0 b1
  have HR := Lib.hid hrb
  have T := Lib.hid (Turn.refl hb)
  have hx := lsh_bd rb n
  have e := Lib.hid (show oprC c 1 u A B n = some (ldC c A (lsh rb n)) by first | rfl | (rw [← hrb]; rfl))
  clear hb hrb
  go_enter Tryz.func91, Tryz.ntmps91
  go_wp2
  go_quiet (fail)
  go_wp2_with (go_at_call 106; (with_reducible refine (left_any _ _ (by omega) (by omega) (by omega) (by omega) _).mono ?_); rintro e w' ⟨rfl, rfl⟩)
  refine (load_any p c A _ hA hx.1 hx.2 _ (T.out.drewN _).at_).mono ?_
  rintro e2 w2 ⟨rfl, tw⟩
  go_wp2
  go_ret
  rw [e.out]
  exact ⟨rfl, ((T.out.drewN _).trans tw)⟩

set_option maxHeartbeats 4000000 in
theorem opr_2 (p q : Nat) (c : Cpu) (u : Bool) (A B : Nat) (hA : A < 16) (hB : B < 16) (n : Int) (n0 : 0 ≤ n) (n1 : n ≤ 4294967295) (b0 : 0 ≤ c.r B) (b1 : c.r B ≤ 4294967295) (w : World) (hb : w.heap[p]? = some (.cells (cpuCells c) 53 (0, 0))) (ku : w.cell? ⟨q, 1, none⟩ = some (.bool u)) (ka : w.cell? ⟨q, 3, none⟩ = some (.int .i64 A)) (kb : w.cell? ⟨q, 4, none⟩ = some (.int .i64 B)) (ko : w.cell? ⟨q, 6, none⟩ = some (.int .i64 2)) :
    Calls Tryz.prog 91 #[.pointer (some ⟨p, 0, none⟩), .pointer (some ⟨q, 0, none⟩), .int .u32 n] w (OprIs p c (oprC c 2 u A B n) w) := by
  have hr := (cell_at hb B).trans (reg_cell c B hB)
  have hB1 : (B : Int) < 16 := by omega
  obtain ⟨rb, hrb⟩ : ∃ rb, c.r B = rb := ⟨_, rfl⟩
  rw [hrb] at hr b0 b1
  have HR := Lib.hid hrb
  have T := Lib.hid (Turn.refl hb)
  have hx := ash_bd rb n
  have e := Lib.hid (show oprC c 2 u A B n = some (ldC c A (ash rb n)) by first | rfl | (rw [← hrb]; rfl))
  clear hb hrb
  go_enter Tryz.func91, Tryz.ntmps91
  go_wp2
  go_quiet (fail)
  go_wp2_with (go_at_call 107; (with_reducible refine (right_any _ _ (by omega) (by omega) (by omega) (by omega) _).mono ?_); rintro e w' ⟨rfl, rfl⟩)
  refine (load_any p c A _ hA hx.1 hx.2 _ (T.out.drewN _).at_).mono ?_
  rintro e2 w2 ⟨rfl, tw⟩
  go_wp2
  go_ret
  rw [e.out]
  exact ⟨rfl, ((T.out.drewN _).trans tw)⟩

set_option maxHeartbeats 4000000 in
theorem opr_3 (p q : Nat) (c : Cpu) (u : Bool) (A B : Nat) (hA : A < 16) (hB : B < 16) (n : Int) (n0 : 0 ≤ n) (n1 : n ≤ 4294967295) (b0 : 0 ≤ c.r B) (b1 : c.r B ≤ 4294967295) (w : World) (hb : w.heap[p]? = some (.cells (cpuCells c) 53 (0, 0))) (ku : w.cell? ⟨q, 1, none⟩ = some (.bool u)) (ka : w.cell? ⟨q, 3, none⟩ = some (.int .i64 A)) (kb : w.cell? ⟨q, 4, none⟩ = some (.int .i64 B)) (ko : w.cell? ⟨q, 6, none⟩ = some (.int .i64 3)) :
    Calls Tryz.prog 91 #[.pointer (some ⟨p, 0, none⟩), .pointer (some ⟨q, 0, none⟩), .int .u32 n] w (OprIs p c (oprC c 3 u A B n) w) := by
  have hr := (cell_at hb B).trans (reg_cell c B hB)
  have hB1 : (B : Int) < 16 := by omega
  obtain ⟨rb, hrb⟩ : ∃ rb, c.r B = rb := ⟨_, rfl⟩
  rw [hrb] at hr b0 b1
  have HR := Lib.hid hrb
  have T := Lib.hid (Turn.refl hb)
  have hx := trn_bd rb n b0 b1
  have e := Lib.hid (show oprC c 3 u A B n = some (ldC c A (trn rb n)) by first | rfl | (rw [← hrb]; rfl))
  clear hb hrb
  go_enter Tryz.func91, Tryz.ntmps91
  go_wp2
  go_quiet (fail)
  go_wp2_with (go_at_call 108; (with_reducible refine (turn_any _ _ (by omega) (by omega) (by omega) (by omega) _).mono ?_); rintro e w' ⟨rfl, rfl⟩)
  refine (load_any p c A _ hA hx.1 hx.2 _ (T.out.drewN _).at_).mono ?_
  rintro e2 w2 ⟨rfl, tw⟩
  go_wp2
  go_ret
  rw [e.out]
  exact ⟨rfl, ((T.out.drewN _).trans tw)⟩

set_option maxHeartbeats 4000000 in
theorem opr_4 (p q : Nat) (c : Cpu) (u : Bool) (A B : Nat) (hA : A < 16) (hB : B < 16) (n : Int) (n0 : 0 ≤ n) (n1 : n ≤ 4294967295) (b0 : 0 ≤ c.r B) (b1 : c.r B ≤ 4294967295) (w : World) (hb : w.heap[p]? = some (.cells (cpuCells c) 53 (0, 0))) (ku : w.cell? ⟨q, 1, none⟩ = some (.bool u)) (ka : w.cell? ⟨q, 3, none⟩ = some (.int .i64 A)) (kb : w.cell? ⟨q, 4, none⟩ = some (.int .i64 B)) (ko : w.cell? ⟨q, 6, none⟩ = some (.int .i64 4)) :
    Calls Tryz.prog 91 #[.pointer (some ⟨p, 0, none⟩), .pointer (some ⟨q, 0, none⟩), .int .u32 n] w (OprIs p c (oprC c 4 u A B n) w) := by
  have hr := (cell_at hb B).trans (reg_cell c B hB)
  have hB1 : (B : Int) < 16 := by omega
  obtain ⟨rb, hrb⟩ : ∃ rb, c.r B = rb := ⟨_, rfl⟩
  rw [hrb] at hr b0 b1
  have HR := Lib.hid hrb
  have T := Lib.hid (Turn.refl hb)
  have hx := And.intro (bits_lo_u32 BinOp.and rb n) (bits_hi_u32 BinOp.and rb n)
  have e := Lib.hid (show oprC c 4 u A B n = some (ldC c A (bits BinOp.and IntKind.u32 rb n)) by first | rfl | (rw [← hrb]; rfl))
  clear hb hrb
  go_enter Tryz.func91, Tryz.ntmps91
  go_wp2
  go_quiet (fail)
  go_wp2_with fail
  refine (load_any p c A _ hA hx.1 hx.2 _ (T.out.drewN _).at_).mono ?_
  rintro e2 w2 ⟨rfl, tw⟩
  go_wp2
  go_ret
  rw [e.out]
  exact ⟨rfl, ((T.out.drewN _).trans tw)⟩

set_option maxHeartbeats 4000000 in
theorem opr_5 (p q : Nat) (c : Cpu) (u : Bool) (A B : Nat) (hA : A < 16) (hB : B < 16) (n : Int) (n0 : 0 ≤ n) (n1 : n ≤ 4294967295) (b0 : 0 ≤ c.r B) (b1 : c.r B ≤ 4294967295) (w : World) (hb : w.heap[p]? = some (.cells (cpuCells c) 53 (0, 0))) (ku : w.cell? ⟨q, 1, none⟩ = some (.bool u)) (ka : w.cell? ⟨q, 3, none⟩ = some (.int .i64 A)) (kb : w.cell? ⟨q, 4, none⟩ = some (.int .i64 B)) (ko : w.cell? ⟨q, 6, none⟩ = some (.int .i64 5)) :
    Calls Tryz.prog 91 #[.pointer (some ⟨p, 0, none⟩), .pointer (some ⟨q, 0, none⟩), .int .u32 n] w (OprIs p c (oprC c 5 u A B n) w) := by
  have hr := (cell_at hb B).trans (reg_cell c B hB)
  have hB1 : (B : Int) < 16 := by omega
  obtain ⟨rb, hrb⟩ : ∃ rb, c.r B = rb := ⟨_, rfl⟩
  rw [hrb] at hr b0 b1
  have HR := Lib.hid hrb
  have T := Lib.hid (Turn.refl hb)
  have hx := And.intro (bits_lo_u32 BinOp.andNot rb n) (bits_hi_u32 BinOp.andNot rb n)
  have e := Lib.hid (show oprC c 5 u A B n = some (ldC c A (bits BinOp.andNot IntKind.u32 rb n)) by first | rfl | (rw [← hrb]; rfl))
  clear hb hrb
  go_enter Tryz.func91, Tryz.ntmps91
  go_wp2
  go_quiet (fail)
  go_wp2_with fail
  refine (load_any p c A _ hA hx.1 hx.2 _ (T.out.drewN _).at_).mono ?_
  rintro e2 w2 ⟨rfl, tw⟩
  go_wp2
  go_ret
  rw [e.out]
  exact ⟨rfl, ((T.out.drewN _).trans tw)⟩

set_option maxHeartbeats 4000000 in
theorem opr_6 (p q : Nat) (c : Cpu) (u : Bool) (A B : Nat) (hA : A < 16) (hB : B < 16) (n : Int) (n0 : 0 ≤ n) (n1 : n ≤ 4294967295) (b0 : 0 ≤ c.r B) (b1 : c.r B ≤ 4294967295) (w : World) (hb : w.heap[p]? = some (.cells (cpuCells c) 53 (0, 0))) (ku : w.cell? ⟨q, 1, none⟩ = some (.bool u)) (ka : w.cell? ⟨q, 3, none⟩ = some (.int .i64 A)) (kb : w.cell? ⟨q, 4, none⟩ = some (.int .i64 B)) (ko : w.cell? ⟨q, 6, none⟩ = some (.int .i64 6)) :
    Calls Tryz.prog 91 #[.pointer (some ⟨p, 0, none⟩), .pointer (some ⟨q, 0, none⟩), .int .u32 n] w (OprIs p c (oprC c 6 u A B n) w) := by
  have hr := (cell_at hb B).trans (reg_cell c B hB)
  have hB1 : (B : Int) < 16 := by omega
  obtain ⟨rb, hrb⟩ : ∃ rb, c.r B = rb := ⟨_, rfl⟩
  rw [hrb] at hr b0 b1
  have HR := Lib.hid hrb
  have T := Lib.hid (Turn.refl hb)
  have hx := And.intro (bits_lo_u32 BinOp.or rb n) (bits_hi_u32 BinOp.or rb n)
  have e := Lib.hid (show oprC c 6 u A B n = some (ldC c A (bits BinOp.or IntKind.u32 rb n)) by first | rfl | (rw [← hrb]; rfl))
  clear hb hrb
  go_enter Tryz.func91, Tryz.ntmps91
  go_wp2
  go_quiet (fail)
  go_wp2_with fail
  refine (load_any p c A _ hA hx.1 hx.2 _ (T.out.drewN _).at_).mono ?_
  rintro e2 w2 ⟨rfl, tw⟩
  go_wp2
  go_ret
  rw [e.out]
  exact ⟨rfl, ((T.out.drewN _).trans tw)⟩

set_option maxHeartbeats 4000000 in
theorem opr_7 (p q : Nat) (c : Cpu) (u : Bool) (A B : Nat) (hA : A < 16) (hB : B < 16) (n : Int) (n0 : 0 ≤ n) (n1 : n ≤ 4294967295) (b0 : 0 ≤ c.r B) (b1 : c.r B ≤ 4294967295) (w : World) (hb : w.heap[p]? = some (.cells (cpuCells c) 53 (0, 0))) (ku : w.cell? ⟨q, 1, none⟩ = some (.bool u)) (ka : w.cell? ⟨q, 3, none⟩ = some (.int .i64 A)) (kb : w.cell? ⟨q, 4, none⟩ = some (.int .i64 B)) (ko : w.cell? ⟨q, 6, none⟩ = some (.int .i64 7)) :
    Calls Tryz.prog 91 #[.pointer (some ⟨p, 0, none⟩), .pointer (some ⟨q, 0, none⟩), .int .u32 n] w (OprIs p c (oprC c 7 u A B n) w) := by
  have hr := (cell_at hb B).trans (reg_cell c B hB)
  have hB1 : (B : Int) < 16 := by omega
  obtain ⟨rb, hrb⟩ : ∃ rb, c.r B = rb := ⟨_, rfl⟩
  rw [hrb] at hr b0 b1
  have HR := Lib.hid hrb
  have T := Lib.hid (Turn.refl hb)
  have hx := And.intro (bits_lo_u32 BinOp.xor rb n) (bits_hi_u32 BinOp.xor rb n)
  have e := Lib.hid (show oprC c 7 u A B n = some (ldC c A (bits BinOp.xor IntKind.u32 rb n)) by first | rfl | (rw [← hrb]; rfl))
  clear hb hrb
  go_enter Tryz.func91, Tryz.ntmps91
  go_wp2
  go_quiet (fail)
  go_wp2_with fail
  refine (load_any p c A _ hA hx.1 hx.2 _ (T.out.drewN _).at_).mono ?_
  rintro e2 w2 ⟨rfl, tw⟩
  go_wp2
  go_ret
  rw [e.out]
  exact ⟨rfl, ((T.out.drewN _).trans tw)⟩

set_option maxHeartbeats 4000000 in
theorem opr_8 (p q : Nat) (c : Cpu) (u : Bool) (A B : Nat) (hA : A < 16) (hB : B < 16) (n : Int) (n0 : 0 ≤ n) (n1 : n ≤ 4294967295) (b0 : 0 ≤ c.r B) (b1 : c.r B ≤ 4294967295) (w : World) (hb : w.heap[p]? = some (.cells (cpuCells c) 53 (0, 0))) (ku : w.cell? ⟨q, 1, none⟩ = some (.bool u)) (ka : w.cell? ⟨q, 3, none⟩ = some (.int .i64 A)) (kb : w.cell? ⟨q, 4, none⟩ = some (.int .i64 B)) (ko : w.cell? ⟨q, 6, none⟩ = some (.int .i64 8)) :
    Calls Tryz.prog 91 #[.pointer (some ⟨p, 0, none⟩), .pointer (some ⟨q, 0, none⟩), .int .u32 n] w (OprIs p c (oprC c 8 u A B n) w) := by
  have hr := (cell_at hb B).trans (reg_cell c B hB)
  have hB1 : (B : Int) < 16 := by omega
  obtain ⟨rb, hrb⟩ : ∃ rb, c.r B = rb := ⟨_, rfl⟩
  rw [hrb] at hr b0 b1
  have HR := Lib.hid hrb
  have T := Lib.hid (Turn.refl hb)
  have hx := w32_bd (rb + n + bit (u && c.c))
  have kc : w.cell? ⟨p, 19, none⟩ = some (.bool c.c) := cell_at hb 19
  have kv : w.cell? ⟨p, 20, none⟩ = some (.bool c.v) := cell_at hb 20
  have hfr : ∀ o, w.frozen? ⟨p, o, none⟩ = false := free_at hb
  have e := Lib.hid (show oprC c 8 u A B n = some (ldC { c with c := decide (4294967296 ≤ rb + n + bit (u && c.c)), v := out32 (wrap32 rb + wrap32 n + bit (u && c.c)) } A (w32 (rb + n + bit (u && c.c)))) by rw [← hrb]; rfl)
  clear hb hrb
  obtain ⟨cc, hcc⟩ : ∃ cc, c.c = cc := ⟨_, rfl⟩
  rw [hcc] at kc hx
  have e' := e.out
  rw [hcc] at e'
  have E := Lib.hid e'
  clear e e' hcc
  cases u <;> cases cc
  all_goals
    go_enter Tryz.func91, Tryz.ntmps91
    go_wp2
    go_quiet (fail)
    go_wp2_with (go_at_call 109; (with_reducible refine (add_any _ _ _ (by omega) (by omega) (by omega) (by omega) _).mono ?_); rintro e w' ⟨rfl, rfl⟩)
    refine (load_any p _ A _ hA hx.1 hx.2 _ (((((T.out.drewN _).setCell 19 _).to (set_c _ _)).setCell 20 _).to (set_v _ _)).at_).mono ?_
    rintro e2 w2 ⟨rfl, tw⟩
    go_wp2
    go_ret
    rw [E.out]
    exact ⟨rfl, (((((T.out.drewN _).setCell 19 _).to (set_c _ _)).setCell 20 _).to (set_v _ _)).trans tw⟩

set_option maxHeartbeats 4000000 in
theorem opr_9 (p q : Nat) (c : Cpu) (u : Bool) (A B : Nat) (hA : A < 16) (hB : B < 16) (n : Int) (n0 : 0 ≤ n) (n1 : n ≤ 4294967295) (b0 : 0 ≤ c.r B) (b1 : c.r B ≤ 4294967295) (w : World) (hb : w.heap[p]? = some (.cells (cpuCells c) 53 (0, 0))) (ku : w.cell? ⟨q, 1, none⟩ = some (.bool u)) (ka : w.cell? ⟨q, 3, none⟩ = some (.int .i64 A)) (kb : w.cell? ⟨q, 4, none⟩ = some (.int .i64 B)) (ko : w.cell? ⟨q, 6, none⟩ = some (.int .i64 9)) :
    Calls Tryz.prog 91 #[.pointer (some ⟨p, 0, none⟩), .pointer (some ⟨q, 0, none⟩), .int .u32 n] w (OprIs p c (oprC c 9 u A B n) w) := by
  have hr := (cell_at hb B).trans (reg_cell c B hB)
  have hB1 : (B : Int) < 16 := by omega
  obtain ⟨rb, hrb⟩ : ∃ rb, c.r B = rb := ⟨_, rfl⟩
  rw [hrb] at hr b0 b1
  have HR := Lib.hid hrb
  have T := Lib.hid (Turn.refl hb)
  have hx := w32_bd (rb - n - bit (u && c.c))
  have kc : w.cell? ⟨p, 19, none⟩ = some (.bool c.c) := cell_at hb 19
  have kv : w.cell? ⟨p, 20, none⟩ = some (.bool c.v) := cell_at hb 20
  have hfr : ∀ o, w.frozen? ⟨p, o, none⟩ = false := free_at hb
  have e := Lib.hid (show oprC c 9 u A B n = some (ldC { c with c := decide (rb - n - bit (u && c.c) < 0), v := out32 (wrap32 rb - wrap32 n - bit (u && c.c)) } A (w32 (rb - n - bit (u && c.c)))) by rw [← hrb]; rfl)
  clear hb hrb
  obtain ⟨cc, hcc⟩ : ∃ cc, c.c = cc := ⟨_, rfl⟩
  rw [hcc] at kc hx
  have e' := e.out
  rw [hcc] at e'
  have E := Lib.hid e'
  clear e e' hcc
  cases u <;> cases cc
  all_goals
    go_enter Tryz.func91, Tryz.ntmps91
    go_wp2
    go_quiet (fail)
    go_wp2_with (go_at_call 110; (with_reducible refine (sub_any _ _ _ (by omega) (by omega) (by omega) (by omega) _).mono ?_); rintro e w' ⟨rfl, rfl⟩)
    refine (load_any p _ A _ hA hx.1 hx.2 _ (((((T.out.drewN _).setCell 19 _).to (set_c _ _)).setCell 20 _).to (set_v _ _)).at_).mono ?_
    rintro e2 w2 ⟨rfl, tw⟩
    go_wp2
    go_ret
    rw [E.out]
    exact ⟨rfl, (((((T.out.drewN _).setCell 19 _).to (set_c _ _)).setCell 20 _).to (set_v _ _)).trans tw⟩

theorem prod_hi (a b : Int) (a0 : 0 ≤ a) (a1 : a ≤ 4294967295) (b0 : 0 ≤ b) (b1 : b ≤ 4294967295) : 0 ≤ a * b / 4294967296 ∧ a * b / 4294967296 ≤ 4294967295 := by
  have h1 : 0 ≤ a * b := Int.mul_nonneg a0 b0
  have h2 : a * b ≤ 4294967295 * 4294967295 := Int.mul_le_mul a1 b1 b0 (by omega)
  omega
set_option maxHeartbeats 4000000 in
theorem opr_10 (p q : Nat) (c : Cpu) (u : Bool) (A B : Nat) (hA : A < 16) (hB : B < 16) (n : Int) (n0 : 0 ≤ n) (n1 : n ≤ 4294967295) (b0 : 0 ≤ c.r B) (b1 : c.r B ≤ 4294967295) (w : World) (hb : w.heap[p]? = some (.cells (cpuCells c) 53 (0, 0))) (ku : w.cell? ⟨q, 1, none⟩ = some (.bool u)) (ka : w.cell? ⟨q, 3, none⟩ = some (.int .i64 A)) (kb : w.cell? ⟨q, 4, none⟩ = some (.int .i64 B)) (ko : w.cell? ⟨q, 6, none⟩ = some (.int .i64 10)) :
    Calls Tryz.prog 91 #[.pointer (some ⟨p, 0, none⟩), .pointer (some ⟨q, 0, none⟩), .int .u32 n] w (OprIs p c (oprC c 10 u A B n) w) := by
  have hr := (cell_at hb B).trans (reg_cell c B hB)
  have hB1 : (B : Int) < 16 := by omega
  obtain ⟨rb, hrb⟩ : ∃ rb, c.r B = rb := ⟨_, rfl⟩
  rw [hrb] at hr b0 b1
  have HR := Lib.hid hrb
  have T := Lib.hid (Turn.refl hb)
  have kh : w.cell? ⟨p, 16, none⟩ = some (.int .u32 c.h) := cell_at hb 16
  have hfr : ∀ o, w.frozen? ⟨p, o, none⟩ = false := free_at hb
  clear hb
  cases u
  · have hx := w32_bd (wrap32 rb * wrap32 n)
    have E := Lib.hid (show oprC c 10 false A B n = some (ldC { c with h := w32 (wrap32 rb * wrap32 n / 4294967296) } A (w32 (wrap32 rb * wrap32 n))) by rw [← hrb]; rfl)
    clear hrb
    go_enter Tryz.func91, Tryz.ntmps91
    go_wp2
    go_quiet (fail)
    go_wp2_with (go_at_call 111; (with_reducible refine (mul_yes _ _ (by omega) (by omega) (by omega) (by omega) _).mono ?_); rintro e w' ⟨rfl, rfl⟩)
    refine (load_any p _ A _ hA hx.1 hx.2 _ (((T.out.drewN _).setCell 16 _).to (set_h _ _)).at_).mono ?_
    rintro e2 w2 ⟨rfl, tw⟩
    go_wp2
    go_ret
    rw [E.out]
    exact ⟨rfl, (((T.out.drewN _).setCell 16 _).to (set_h _ _)).trans tw⟩
  · have hx := w32_bd (rb * n)
    have E := Lib.hid (show oprC c 10 true A B n = some (ldC { c with h := rb * n / 4294967296 } A (w32 (rb * n))) by rw [← hrb]; rfl)
    clear hrb
    go_enter Tryz.func91, Tryz.ntmps91
    go_wp2
    go_quiet (fail)
    go_wp2_with (go_at_call 111; (with_reducible refine (mul_no _ _ (by omega) (by omega) (by omega) (by omega) _).mono ?_); rintro e w' ⟨rfl, rfl⟩)
    refine (load_any p _ A _ hA hx.1 hx.2 _ (((T.out.drewN _).setCell 16 _).to (set_h _ _)).at_).mono ?_
    rintro e2 w2 ⟨rfl, tw⟩
    go_wp2
    go_ret
    rw [E.out]
    exact ⟨rfl, (((T.out.drewN _).setCell 16 _).to (set_h _ _)).trans tw⟩
set_option maxHeartbeats 4000000 in
theorem opr_11 (p q : Nat) (c : Cpu) (u : Bool) (A B : Nat) (hA : A < 16) (hB : B < 16) (n : Int) (n0 : 0 ≤ n) (n1 : n ≤ 4294967295) (b0 : 0 ≤ c.r B) (b1 : c.r B ≤ 4294967295) (w : World) (hb : w.heap[p]? = some (.cells (cpuCells c) 53 (0, 0))) (ku : w.cell? ⟨q, 1, none⟩ = some (.bool u)) (ka : w.cell? ⟨q, 3, none⟩ = some (.int .i64 A)) (kb : w.cell? ⟨q, 4, none⟩ = some (.int .i64 B)) (ko : w.cell? ⟨q, 6, none⟩ = some (.int .i64 11)) :
    Calls Tryz.prog 91 #[.pointer (some ⟨p, 0, none⟩), .pointer (some ⟨q, 0, none⟩), .int .u32 n] w (OprIs p c (oprC c 11 u A B n) w) := by
  have hr := (cell_at hb B).trans (reg_cell c B hB)
  have hB1 : (B : Int) < 16 := by omega
  obtain ⟨rb, hrb⟩ : ∃ rb, c.r B = rb := ⟨_, rfl⟩
  rw [hrb] at hr b0 b1
  have HR := Lib.hid hrb
  have T := Lib.hid (Turn.refl hb)
  have kh : w.cell? ⟨p, 16, none⟩ = some (.int .u32 c.h) := cell_at hb 16
  have hfr : ∀ o, w.frozen? ⟨p, o, none⟩ = false := free_at hb
  clear hb
  by_cases h : wrap32 n ≤ 0
  · have E := Lib.hid (show oprC c 11 u A B n = none by unfold oprC; simp [h])
    clear hrb
    go_enter Tryz.func91, Tryz.ntmps91
    go_wp2
    go_quiet (fail)
    go_wp2_with (go_at_call 112; (with_reducible refine (div_no _ _ (by omega) _).mono ?_); rintro e w' ⟨rfl, rfl⟩)
    go_ret
    rw [E.out]
    exact ⟨rfl, T.out.drewN _⟩
  · have hx := w32_bd (wrap32 rb / wrap32 n)
    have E := Lib.hid (show oprC c 11 u A B n = some (ldC { c with h := wrap32 rb % wrap32 n } A (w32 (wrap32 rb / wrap32 n))) by rw [← hrb]; unfold oprC; simp [h])
    clear hrb
    go_enter Tryz.func91, Tryz.ntmps91
    go_wp2
    go_quiet (fail)
    go_wp2_with (go_at_call 112; (with_reducible refine (div_yes _ _ (by omega) _).mono ?_); rintro e w' ⟨rfl, n1, rfl⟩)
    refine (load_any p _ A _ hA hx.1 hx.2 _ (((T.out.drewN _).setCell 16 _).to (set_h _ _)).at_).mono ?_
    rintro e2 w2 ⟨rfl, tw⟩
    go_wp2
    go_ret
    rw [E.out]
    exact ⟨rfl, (((T.out.drewN _).setCell 16 _).to (set_h _ _)).trans tw⟩

theorem operate_any (p q : Nat) (c : Cpu) (i : Ins) (A B : Nat) (hA : A < 16) (hB : B < 16) (ia : i.a = A) (ib : i.b = B) (o0 : 0 ≤ i.op) (o1 : i.op ≤ 11) (n : Int) (n0 : 0 ≤ n) (n1 : n ≤ 4294967295) (b0 : 0 ≤ c.r B) (b1 : c.r B ≤ 4294967295) (w : World) (hb : w.heap[p]? = some (.cells (cpuCells c) 53 (0, 0))) (hq : InsAt q i w) :
    Calls Tryz.prog 91 #[.pointer (some ⟨p, 0, none⟩), .pointer (some ⟨q, 0, none⟩), .int .u32 n] w (OprIs p c (oprC c i.op i.u A B n) w) := by
  have ka := hq.ka
  have kb := hq.kb
  have ko := hq.kop
  rw [ia] at ka
  rw [ib] at kb
  have : i.op = 0 ∨ i.op = 1 ∨ i.op = 2 ∨ i.op = 3 ∨ i.op = 4 ∨ i.op = 5 ∨ i.op = 6 ∨ i.op = 7 ∨ i.op = 8 ∨ i.op = 9 ∨ i.op = 10 ∨ i.op = 11 := by omega
  rcases this with h | h | h | h | h | h | h | h | h | h | h | h <;> rw [h] at ko <;> rw [h]
  · exact opr_0 p q c i.u A B hA hB n n0 n1 b0 b1 w hb hq.ku ka kb ko
  · exact opr_1 p q c i.u A B hA hB n n0 n1 b0 b1 w hb hq.ku ka kb ko
  · exact opr_2 p q c i.u A B hA hB n n0 n1 b0 b1 w hb hq.ku ka kb ko
  · exact opr_3 p q c i.u A B hA hB n n0 n1 b0 b1 w hb hq.ku ka kb ko
  · exact opr_4 p q c i.u A B hA hB n n0 n1 b0 b1 w hb hq.ku ka kb ko
  · exact opr_5 p q c i.u A B hA hB n n0 n1 b0 b1 w hb hq.ku ka kb ko
  · exact opr_6 p q c i.u A B hA hB n n0 n1 b0 b1 w hb hq.ku ka kb ko
  · exact opr_7 p q c i.u A B hA hB n n0 n1 b0 b1 w hb hq.ku ka kb ko
  · exact opr_8 p q c i.u A B hA hB n n0 n1 b0 b1 w hb hq.ku ka kb ko
  · exact opr_9 p q c i.u A B hA hB n n0 n1 b0 b1 w hb hq.ku ka kb ko
  · exact opr_10 p q c i.u A B hA hB n n0 n1 b0 b1 w hb hq.ku ka kb ko
  · exact opr_11 p q c i.u A B hA hB n n0 n1 b0 b1 w hb hq.ku ka kb ko

end Go.Proofs.YtlgdlaohfkgkfaaGreat
