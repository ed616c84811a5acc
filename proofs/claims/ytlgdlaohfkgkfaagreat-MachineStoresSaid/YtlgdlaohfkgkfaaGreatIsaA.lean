/-
  The contracts of package isa.
-/
import Derived.Test.YtlgdlaohfkgkfaaGreatIsaN
import Derived.Test.YtlgdlaohfkgkfaaGreatWordA
import Derived.Deep.QuietTactic
import Derived.BigQuiet
import Derived.Outline
namespace Go.Proofs.YtlgdlaohfkgkfaaGreat
open Go.ChangeShapes Go.WideShapes Go.ChangeAt Go.RowKit
set_option linter.unusedVariables false

theorem take_1 (p : Nat) (r : Int) (w : World) (hc : w.cell? ⟨p, 0, none⟩ = some (.int .u32 r)) (hf : w.frozen? ⟨p, 0, none⟩ = false) (r0 : 0 ≤ r) (r1 : r ≤ 4294967295) :
    Calls Tryz.prog 104 #[.int .i64 1, .pointer (some ⟨p, 0, none⟩)] w fun e w' => e = .returned (.int .i64 (tk r 1)) ∧ w.setCell ⟨p, 0, none⟩ (.int .u32 (rst r 1)) = w' := by
  go_enter Tryz.func104, Tryz.ntmps104
  go_wp2
  go_ret
  exact ⟨ret_int (by unfold tk; simp), by unfold rst; simp⟩
theorem take_2 (p : Nat) (r : Int) (w : World) (hc : w.cell? ⟨p, 0, none⟩ = some (.int .u32 r)) (hf : w.frozen? ⟨p, 0, none⟩ = false) (r0 : 0 ≤ r) (r1 : r ≤ 4294967295) :
    Calls Tryz.prog 104 #[.int .i64 2, .pointer (some ⟨p, 0, none⟩)] w fun e w' => e = .returned (.int .i64 (tk r 2)) ∧ w.setCell ⟨p, 0, none⟩ (.int .u32 (rst r 2)) = w' := by
  go_enter Tryz.func104, Tryz.ntmps104
  go_wp2
  go_ret
  exact ⟨ret_int (by unfold tk; simp), by unfold rst; simp⟩
theorem take_4 (p : Nat) (r : Int) (w : World) (hc : w.cell? ⟨p, 0, none⟩ = some (.int .u32 r)) (hf : w.frozen? ⟨p, 0, none⟩ = false) (r0 : 0 ≤ r) (r1 : r ≤ 4294967295) :
    Calls Tryz.prog 104 #[.int .i64 4, .pointer (some ⟨p, 0, none⟩)] w fun e w' => e = .returned (.int .i64 (tk r 4)) ∧ w.setCell ⟨p, 0, none⟩ (.int .u32 (rst r 4)) = w' := by
  go_enter Tryz.func104, Tryz.ntmps104
  go_wp2
  go_ret
  exact ⟨ret_int (by unfold tk; simp), by unfold rst; simp⟩
theorem take_8 (p : Nat) (r : Int) (w : World) (hc : w.cell? ⟨p, 0, none⟩ = some (.int .u32 r)) (hf : w.frozen? ⟨p, 0, none⟩ = false) (r0 : 0 ≤ r) (r1 : r ≤ 4294967295) :
    Calls Tryz.prog 104 #[.int .i64 8, .pointer (some ⟨p, 0, none⟩)] w fun e w' => e = .returned (.int .i64 (tk r 8)) ∧ w.setCell ⟨p, 0, none⟩ (.int .u32 (rst r 8)) = w' := by
  go_enter Tryz.func104, Tryz.ntmps104
  go_wp2
  go_ret
  exact ⟨ret_int (by unfold tk; simp), by unfold rst; simp⟩
theorem take_12 (p : Nat) (r : Int) (w : World) (hc : w.cell? ⟨p, 0, none⟩ = some (.int .u32 r)) (hf : w.frozen? ⟨p, 0, none⟩ = false) (r0 : 0 ≤ r) (r1 : r ≤ 4294967295) :
    Calls Tryz.prog 104 #[.int .i64 12, .pointer (some ⟨p, 0, none⟩)] w fun e w' => e = .returned (.int .i64 (tk r 12)) ∧ w.setCell ⟨p, 0, none⟩ (.int .u32 (rst r 12)) = w' := by
  go_enter Tryz.func104, Tryz.ntmps104
  go_wp2
  go_ret
  exact ⟨ret_int (by unfold tk; simp), by unfold rst; simp⟩
theorem take_16 (p : Nat) (r : Int) (w : World) (hc : w.cell? ⟨p, 0, none⟩ = some (.int .u32 r)) (hf : w.frozen? ⟨p, 0, none⟩ = false) (r0 : 0 ≤ r) (r1 : r ≤ 4294967295) :
    Calls Tryz.prog 104 #[.int .i64 16, .pointer (some ⟨p, 0, none⟩)] w fun e w' => e = .returned (.int .i64 (tk r 16)) ∧ w.setCell ⟨p, 0, none⟩ (.int .u32 (rst r 16)) = w' := by
  go_enter Tryz.func104, Tryz.ntmps104
  go_wp2
  go_ret
  exact ⟨ret_int (by unfold tk; simp), by unfold rst; simp⟩
theorem take_20 (p : Nat) (r : Int) (w : World) (hc : w.cell? ⟨p, 0, none⟩ = some (.int .u32 r)) (hf : w.frozen? ⟨p, 0, none⟩ = false) (r0 : 0 ≤ r) (r1 : r ≤ 4294967295) :
    Calls Tryz.prog 104 #[.int .i64 20, .pointer (some ⟨p, 0, none⟩)] w fun e w' => e = .returned (.int .i64 (tk r 20)) ∧ w.setCell ⟨p, 0, none⟩ (.int .u32 (rst r 20)) = w' := by
  go_enter Tryz.func104, Tryz.ntmps104
  go_wp2
  go_ret
  exact ⟨ret_int (by unfold tk; simp), by unfold rst; simp⟩

theorem mayOp_any (f : Int) (u v : Bool) (a b c op im off cond n : Int) (w : World) :
    Calls Tryz.prog 105 #[.agg #[.int .i64 f, .bool u, .bool v, .int .i64 a, .int .i64 b, .int .i64 c, .int .i64 op, .int .i64 im, .int .i64 off, .int .i64 cond, .int .i64 n]] w fun e w' => e = .returned (.bool (mayOpB f u v b c op)) ∧ w.alloc (.cells #[.int .i64 f, .bool u, .bool v, .int .i64 a, .int .i64 b, .int .i64 c, .int .i64 op, .int .i64 im, .int .i64 off, .int .i64 cond, .int .i64 n] 64) = w' := by
  by_cases h0 : op = 0
  · subst h0
    cases u
    · go_enter Tryz.func105, Tryz.ntmps105
      go_wp2
      go_ret
      exact ⟨ret_bool (by rw [Bool.eq_iff_iff]; simp [mayOpB]), rfl⟩
    · by_cases h1 : f = 1
      · subst h1
        cases v
        · go_enter Tryz.func105, Tryz.ntmps105
          go_wp2
          go_ret
          exact ⟨ret_bool (by rw [Bool.eq_iff_iff]; simp [mayOpB]), rfl⟩
        · go_enter Tryz.func105, Tryz.ntmps105
          go_wp2
          go_ret
          exact ⟨ret_bool (by rw [Bool.eq_iff_iff]; simp [mayOpB]), rfl⟩
      · by_cases h2 : f = 0
        · subst h2
          by_cases h3 : 1 < c
          · go_enter Tryz.func105, Tryz.ntmps105
            go_wp2
            go_ret
            exact ⟨ret_bool (by rw [Bool.eq_iff_iff]; simp [mayOpB]; try omega), rfl⟩
          · go_enter Tryz.func105, Tryz.ntmps105
            go_wp2
            go_ret
            exact ⟨ret_bool (by rw [Bool.eq_iff_iff]; simp [mayOpB]; try omega), rfl⟩
        · go_enter Tryz.func105, Tryz.ntmps105
          go_wp2
          go_ret
          exact ⟨ret_bool (by rw [Bool.eq_iff_iff]; simp [mayOpB, h1, h2]), rfl⟩
  · by_cases h8 : op = 8
    · subst h8
      go_enter Tryz.func105, Tryz.ntmps105
      go_wp2
      go_ret
      exact ⟨ret_bool (by rw [Bool.eq_iff_iff]; simp [mayOpB]), rfl⟩
    · by_cases h9 : op = 9
      · subst h9
        go_enter Tryz.func105, Tryz.ntmps105
        go_wp2
        go_ret
        exact ⟨ret_bool (by rw [Bool.eq_iff_iff]; simp [mayOpB]), rfl⟩
      · by_cases h10 : op = 10
        · subst h10
          go_enter Tryz.func105, Tryz.ntmps105
          go_wp2
          go_ret
          exact ⟨ret_bool (by rw [Bool.eq_iff_iff]; simp [mayOpB]), rfl⟩
        · cases u <;> by_cases h11 : 0 < op
          all_goals
            go_enter Tryz.func105, Tryz.ntmps105
            go_wp2
            go_ret
            exact ⟨ret_bool (by rw [Bool.eq_iff_iff]; simp [mayOpB, h0, h8, h9, h10]; try omega), rfl⟩

theorem below1 (w : World) (a : Obj) : Below w.heap.size w (w.alloc a) := (Below.refl _ _).alloc (Nat.le_refl _) _
theorem below2 (w : World) (a b : Obj) : Below w.heap.size w ((w.alloc a).alloc b) := (below1 w a).alloc (by simp) _
theorem below3 (w : World) (a b c : Obj) : Below w.heap.size w (((w.alloc a).alloc b).alloc c) := (below2 w a b).alloc (by simp; omega) _
theorem below4 (w : World) (a b c d : Obj) : Below w.heap.size w ((((w.alloc a).alloc b).alloc c).alloc d) := (below3 w a b c).alloc (by simp; omega) _
/-- what Of tells -/
def OfIs (I : Ins) (odd : Bool) (w : World) (e : Ending) (w' : World) : Prop := e = .returned (.tuple #[insV (if odd then ins0 else I), .int .i64 (if odd then 4 else 0)]) ∧ Below w.heap.size w w'
set_option maxHeartbeats 4000000 in
/-- a word's top two bits say its form: 0 -/
theorem of_0 (x : Int) (x0 : 0 ≤ x) (x1 : x ≤ 4294967295) (h : tk x 2 = 0) (w : World) :
    Calls Tryz.prog 90 #[.int .u32 x] w (OfIs (of0 x) (odd0 x) w) := by
  have h0 : (tk x 2 == 0) = true := by simp [h]
  clear h
  go_enter Tryz.func90, Tryz.ntmps90
  go_wp2_with (first | (go_at_call 104; (with_reducible refine (take_1 _ _ _ (by go_simp; rfl) (by go_simp) (by first | exact (rst_bd _ _).1 | omega) (by first | exact (rst_bd _ _).2 | omega)).mono ?_); rintro e w' ⟨rfl, rfl⟩) | (go_at_call 104; (with_reducible refine (take_2 _ _ _ (by go_simp; rfl) (by go_simp) (by first | exact (rst_bd _ _).1 | omega) (by first | exact (rst_bd _ _).2 | omega)).mono ?_); rintro e w' ⟨rfl, rfl⟩) | (go_at_call 104; (with_reducible refine (take_4 _ _ _ (by go_simp; rfl) (by go_simp) (by first | exact (rst_bd _ _).1 | omega) (by first | exact (rst_bd _ _).2 | omega)).mono ?_); rintro e w' ⟨rfl, rfl⟩) | (go_at_call 104; (with_reducible refine (take_12 _ _ _ (by go_simp; rfl) (by go_simp) (by first | exact (rst_bd _ _).1 | omega) (by first | exact (rst_bd _ _).2 | omega)).mono ?_); rintro e w' ⟨rfl, rfl⟩) | (go_at_call 105; (with_reducible refine (mayOp_any _ _ _ _ _ _ _ _ _ _ _ _).mono ?_); rintro e w' ⟨rfl, rfl⟩))
  all_goals
    have hodd : odd0 x = true ∨ odd0 x = false := by cases odd0 x <;> simp
    rcases hodd with hodd | hodd
  all_goals first
    | (exfalso; clear x0 x1; simp_all [odd0, of0]; done)
    | refine bodyPost_ret (v := .tuple #[insV ins0, .int .i64 4]) (by simp [results, Tryz.results90, go_sem, insV, ins0]) rfl ⟨by rw [hodd]; rfl, by first | exact below3 _ _ _ _ | exact below4 _ _ _ _ _⟩
    | refine bodyPost_ret (v := .tuple #[insV (of0 x), .int .i64 0]) (by simp [results, Tryz.results90, go_sem, insV, of0, *]) rfl ⟨by rw [hodd]; rfl, by first | exact below3 _ _ _ _ | exact below4 _ _ _ _ _⟩

set_option maxHeartbeats 4000000 in
/-- form 1 -/
theorem of_1 (x : Int) (x0 : 0 ≤ x) (x1 : x ≤ 4294967295) (h : tk x 2 = 1) (w : World) :
    Calls Tryz.prog 90 #[.int .u32 x] w (OfIs (of1 x) (odd1 x) w) := by
  have h0 : (tk x 2 == 0) = false := by simp [h]
  have h1 : (tk x 2 == 1) = true := by simp [h]
  clear h
  go_enter Tryz.func90, Tryz.ntmps90
  go_wp2_with (first | (go_at_call 104; (with_reducible refine (take_1 _ _ _ (by go_simp; rfl) (by go_simp) (by first | exact (rst_bd _ _).1 | omega) (by first | exact (rst_bd _ _).2 | omega)).mono ?_); rintro e w' ⟨rfl, rfl⟩) | (go_at_call 104; (with_reducible refine (take_2 _ _ _ (by go_simp; rfl) (by go_simp) (by first | exact (rst_bd _ _).1 | omega) (by first | exact (rst_bd _ _).2 | omega)).mono ?_); rintro e w' ⟨rfl, rfl⟩) | (go_at_call 104; (with_reducible refine (take_4 _ _ _ (by go_simp; rfl) (by go_simp) (by first | exact (rst_bd _ _).1 | omega) (by first | exact (rst_bd _ _).2 | omega)).mono ?_); rintro e w' ⟨rfl, rfl⟩) | (go_at_call 104; (with_reducible refine (take_16 _ _ _ (by go_simp; rfl) (by go_simp) (by first | exact (rst_bd _ _).1 | omega) (by first | exact (rst_bd _ _).2 | omega)).mono ?_); rintro e w' ⟨rfl, rfl⟩) | (go_at_call 105; (with_reducible refine (mayOp_any _ _ _ _ _ _ _ _ _ _ _ _).mono ?_); rintro e w' ⟨rfl, rfl⟩))
  all_goals
    have hodd : odd1 x = true ∨ odd1 x = false := by cases odd1 x <;> simp
    rcases hodd with hodd | hodd
  all_goals first
    | (exfalso; clear x0 x1; simp_all [odd1, of1]; done)
    | refine bodyPost_ret (v := .tuple #[insV ins0, .int .i64 4]) (by simp [results, Tryz.results90, go_sem, insV, ins0]) rfl ⟨by rw [hodd]; rfl, by first | exact below3 _ _ _ _ | exact below4 _ _ _ _ _⟩
    | refine bodyPost_ret (v := .tuple #[insV (of1 x), .int .i64 0]) (by simp [results, Tryz.results90, go_sem, insV, of1, *]) rfl ⟨by rw [hodd]; rfl, by first | exact below3 _ _ _ _ | exact below4 _ _ _ _ _⟩

theorem tk1_bd (r : Int) (k : Nat) : 0 ≤ tk (rst r k) 1 ∧ tk (rst r k) 1 ≤ 1 := by
  have := tk_bd (rst r k) 1 (by omega) (rst_bd _ _).1 (rst_bd _ _).2
  omega
theorem off_bd (r : Int) : -524288 ≤ wrap32 r / 4096 ∧ wrap32 r / 4096 ≤ 524287 := by have := wrap32_bd r; omega
theorem off8_bd (r : Int) : -8388608 ≤ wrap32 r / 256 ∧ wrap32 r / 256 ≤ 8388607 := by have := wrap32_bd r; omega
set_option maxHeartbeats 4000000 in
/-- forms 2 and 3 -/
theorem of_2 (x : Int) (x0 : 0 ≤ x) (x1 : x ≤ 4294967295) (h : tk x 2 = 2) (w : World) :
    Calls Tryz.prog 90 #[.int .u32 x] w (OfIs (of2 x) false w) := by
  have h0 : (tk x 2 == 0) = false := by simp [h]
  have h1 : (tk x 2 == 1) = false := by simp [h]
  have h2 : (tk x 2 == 2) = true := by simp [h]
  have hb := off_bd (rst (rst (rst (rst (rst x 2) 1) 1) 4) 4)
  have hc := tk1_bd x 2
  clear h
  go_enter Tryz.func90, Tryz.ntmps90
  go_wp2_with (first | (go_at_call 104; (with_reducible refine (take_1 _ _ _ (by go_simp; rfl) (by go_simp) (by first | exact (rst_bd _ _).1 | omega) (by first | exact (rst_bd _ _).2 | omega)).mono ?_); rintro e w' ⟨rfl, rfl⟩) | (go_at_call 104; (with_reducible refine (take_2 _ _ _ (by go_simp; rfl) (by go_simp) (by first | exact (rst_bd _ _).1 | omega) (by first | exact (rst_bd _ _).2 | omega)).mono ?_); rintro e w' ⟨rfl, rfl⟩) | (go_at_call 104; (with_reducible refine (take_4 _ _ _ (by go_simp; rfl) (by go_simp) (by first | exact (rst_bd _ _).1 | omega) (by first | exact (rst_bd _ _).2 | omega)).mono ?_); rintro e w' ⟨rfl, rfl⟩))
  exact bodyPost_ret (v := .tuple #[insV (of2 x), .int .i64 0]) (by simp [results, Tryz.results90, go_sem, insV, of2]) rfl ⟨rfl, by first | exact below3 _ _ _ _ | exact below4 _ _ _ _ _⟩
set_option maxHeartbeats 4000000 in
/-- form 4 -/
theorem of_4 (x : Int) (x0 : 0 ≤ x) (x1 : x ≤ 4294967295) (h : tk x 2 = 3) (g : tk (rst x 2) 1 = 1) (w : World) :
    Calls Tryz.prog 90 #[.int .u32 x] w (OfIs (of4 x) false w) := by
  have h0 : (tk x 2 == 0) = false := by simp [h]
  have h1 : (tk x 2 == 1) = false := by simp [h]
  have h2 : (tk x 2 == 2) = false := by simp [h]
  have h3 : (tk x 2 == 3) = true := by simp [h]
  have h4 : (tk (rst x 2) 1 == 1) = true := by simp [g]
  have hb := off8_bd (rst (rst (rst (rst x 2) 1) 1) 4)
  clear h g
  go_enter Tryz.func90, Tryz.ntmps90
  go_wp2_with (first | (go_at_call 104; (with_reducible refine (take_1 _ _ _ (by go_simp; rfl) (by go_simp) (by first | exact (rst_bd _ _).1 | omega) (by first | exact (rst_bd _ _).2 | omega)).mono ?_); rintro e w' ⟨rfl, rfl⟩) | (go_at_call 104; (with_reducible refine (take_2 _ _ _ (by go_simp; rfl) (by go_simp) (by first | exact (rst_bd _ _).1 | omega) (by first | exact (rst_bd _ _).2 | omega)).mono ?_); rintro e w' ⟨rfl, rfl⟩) | (go_at_call 104; (with_reducible refine (take_4 _ _ _ (by go_simp; rfl) (by go_simp) (by first | exact (rst_bd _ _).1 | omega) (by first | exact (rst_bd _ _).2 | omega)).mono ?_); rintro e w' ⟨rfl, rfl⟩))
  exact bodyPost_ret (v := .tuple #[insV (of4 x), .int .i64 0]) (by simp [results, Tryz.results90, go_sem, insV, of4]) rfl ⟨rfl, by first | exact below3 _ _ _ _ | exact below4 _ _ _ _ _⟩
set_option maxHeartbeats 4000000 in
/-- form 5, V or not; its lowest bits are not 12, or V is not -/
theorem of_5 (x : Int) (x0 : 0 ≤ x) (x1 : x ≤ 4294967295) (h : tk x 2 = 3) (g : tk (rst x 2) 1 ≠ 1) (k : tk (rst (rst x 2) 1) 1 ≠ 1 ∨ x % 16 ≠ 12) (w : World) :
    Calls Tryz.prog 90 #[.int .u32 x] w (OfIs (of5 x) (odd5 x) w) := by
  have h0 : (tk x 2 == 0) = false := by simp [h]
  have h1 : (tk x 2 == 1) = false := by simp [h]
  have h2 : (tk x 2 == 2) = false := by simp [h]
  have h3 : (tk x 2 == 3) = true := by simp [h]
  have h4 : (tk (rst x 2) 1 == 1) = false := by simp [g]
  clear h g
  by_cases h5 : tk (rst (rst x 2) 1) 1 = 1
  · have h5 : (tk (rst (rst x 2) 1) 1 == 1) = true := by simp [h5]
    have h6 : (bits BinOp.and IntKind.u32 x 15 == 12) = false := by rw [and15 x x0 x1]; rcases k with k | k <;> simp_all
    clear k
    go_enter Tryz.func90, Tryz.ntmps90
    go_wp2_with (first | (go_at_call 104; (with_reducible refine (take_1 _ _ _ (by go_simp; rfl) (by go_simp) (by first | exact (rst_bd _ _).1 | omega) (by first | exact (rst_bd _ _).2 | omega)).mono ?_); rintro e w' ⟨rfl, rfl⟩) | (go_at_call 104; (with_reducible refine (take_2 _ _ _ (by go_simp; rfl) (by go_simp) (by first | exact (rst_bd _ _).1 | omega) (by first | exact (rst_bd _ _).2 | omega)).mono ?_); rintro e w' ⟨rfl, rfl⟩) | (go_at_call 104; (with_reducible refine (take_4 _ _ _ (by go_simp; rfl) (by go_simp) (by first | exact (rst_bd _ _).1 | omega) (by first | exact (rst_bd _ _).2 | omega)).mono ?_); rintro e w' ⟨rfl, rfl⟩) | (go_at_call 104; (with_reducible refine (take_20 _ _ _ (by go_simp; rfl) (by go_simp) (by first | exact (rst_bd _ _).1 | omega) (by first | exact (rst_bd _ _).2 | omega)).mono ?_); rintro e w' ⟨rfl, rfl⟩))
    all_goals
      have hodd : odd5 x = true ∨ odd5 x = false := by cases odd5 x <;> simp
      rcases hodd with hodd | hodd
    all_goals first
      | (exfalso; clear x0 x1; simp_all [odd5, of5]; done)
      | refine bodyPost_ret (v := .tuple #[insV ins0, .int .i64 4]) (by simp [results, Tryz.results90, go_sem, insV, ins0]) rfl ⟨by rw [hodd]; rfl, by first | exact below3 _ _ _ _ | exact below4 _ _ _ _ _⟩
      | refine bodyPost_ret (v := .tuple #[insV (of5 x), .int .i64 0]) (by simp [results, Tryz.results90, go_sem, insV, of5, *]) rfl ⟨by rw [hodd]; rfl, by first | exact below3 _ _ _ _ | exact below4 _ _ _ _ _⟩

  · have h5 : (tk (rst (rst x 2) 1) 1 == 1) = false := by simp [h5]
    clear k
    go_enter Tryz.func90, Tryz.ntmps90
    go_wp2_with (first | (go_at_call 104; (with_reducible refine (take_1 _ _ _ (by go_simp; rfl) (by go_simp) (by first | exact (rst_bd _ _).1 | omega) (by first | exact (rst_bd _ _).2 | omega)).mono ?_); rintro e w' ⟨rfl, rfl⟩) | (go_at_call 104; (with_reducible refine (take_2 _ _ _ (by go_simp; rfl) (by go_simp) (by first | exact (rst_bd _ _).1 | omega) (by first | exact (rst_bd _ _).2 | omega)).mono ?_); rintro e w' ⟨rfl, rfl⟩) | (go_at_call 104; (with_reducible refine (take_4 _ _ _ (by go_simp; rfl) (by go_simp) (by first | exact (rst_bd _ _).1 | omega) (by first | exact (rst_bd _ _).2 | omega)).mono ?_); rintro e w' ⟨rfl, rfl⟩) | (go_at_call 104; (with_reducible refine (take_20 _ _ _ (by go_simp; rfl) (by go_simp) (by first | exact (rst_bd _ _).1 | omega) (by first | exact (rst_bd _ _).2 | omega)).mono ?_); rintro e w' ⟨rfl, rfl⟩))
    all_goals
      have hodd : odd5 x = true ∨ odd5 x = false := by cases odd5 x <;> simp
      rcases hodd with hodd | hodd
    all_goals first
      | (exfalso; clear x0 x1; simp_all [odd5, of5]; done)
      | refine bodyPost_ret (v := .tuple #[insV ins0, .int .i64 4]) (by simp [results, Tryz.results90, go_sem, insV, ins0]) rfl ⟨by rw [hodd]; rfl, by first | exact below3 _ _ _ _ | exact below4 _ _ _ _ _⟩
      | refine bodyPost_ret (v := .tuple #[insV (of5 x), .int .i64 0]) (by simp [results, Tryz.results90, go_sem, insV, of5, *]) rfl ⟨by rw [hodd]; rfl, by first | exact below3 _ _ _ _ | exact below4 _ _ _ _ _⟩

set_option maxHeartbeats 4000000 in
/-- form 6 -/
theorem of_6 (x : Int) (x0 : 0 ≤ x) (x1 : x ≤ 4294967295) (h : tk x 2 = 3) (g : tk (rst x 2) 1 ≠ 1) (k : tk (rst (rst x 2) 1) 1 = 1) (k2 : x % 16 = 12) (w : World) :
    Calls Tryz.prog 90 #[.int .u32 x] w (OfIs (of6 x) (odd6 x) w) := by
  have h0 : (tk x 2 == 0) = false := by simp [h]
  have h1 : (tk x 2 == 1) = false := by simp [h]
  have h2 : (tk x 2 == 2) = false := by simp [h]
  have h3 : (tk x 2 == 3) = true := by simp [h]
  have h4 : (tk (rst x 2) 1 == 1) = false := by simp [g]
  have h5 : (tk (rst (rst x 2) 1) 1 == 1) = true := by simp [k]
  have h6 : (bits BinOp.and IntKind.u32 x 15 == 12) = true := by rw [and15 x x0 x1]; simp [k2]
  clear h g k k2
  go_enter Tryz.func90, Tryz.ntmps90
  go_wp2_with (first | (go_at_call 104; (with_reducible refine (take_1 _ _ _ (by go_simp; rfl) (by go_simp) (by first | exact (rst_bd _ _).1 | omega) (by first | exact (rst_bd _ _).2 | omega)).mono ?_); rintro e w' ⟨rfl, rfl⟩) | (go_at_call 104; (with_reducible refine (take_2 _ _ _ (by go_simp; rfl) (by go_simp) (by first | exact (rst_bd _ _).1 | omega) (by first | exact (rst_bd _ _).2 | omega)).mono ?_); rintro e w' ⟨rfl, rfl⟩) | (go_at_call 104; (with_reducible refine (take_4 _ _ _ (by go_simp; rfl) (by go_simp) (by first | exact (rst_bd _ _).1 | omega) (by first | exact (rst_bd _ _).2 | omega)).mono ?_); rintro e w' ⟨rfl, rfl⟩) | (go_at_call 104; (with_reducible refine (take_8 _ _ _ (by go_simp; rfl) (by go_simp) (by first | exact (rst_bd _ _).1 | omega) (by first | exact (rst_bd _ _).2 | omega)).mono ?_); rintro e w' ⟨rfl, rfl⟩) | (go_at_call 104; (with_reducible refine (take_12 _ _ _ (by go_simp; rfl) (by go_simp) (by first | exact (rst_bd _ _).1 | omega) (by first | exact (rst_bd _ _).2 | omega)).mono ?_); rintro e w' ⟨rfl, rfl⟩))
  all_goals
    have hodd : odd6 x = true ∨ odd6 x = false := by cases odd6 x <;> simp
    rcases hodd with hodd | hodd
  all_goals first
    | (exfalso; clear x0 x1; simp_all [odd6, of6]; done)
    | refine bodyPost_ret (v := .tuple #[insV ins0, .int .i64 4]) (by simp [results, Tryz.results90, go_sem, insV, ins0]) rfl ⟨by rw [hodd]; rfl, by first | exact below3 _ _ _ _ | exact below4 _ _ _ _ _⟩
    | refine bodyPost_ret (v := .tuple #[insV (of6 x), .int .i64 0]) (by simp [results, Tryz.results90, go_sem, insV, of6, *]) rfl ⟨by rw [hodd]; rfl, by first | exact below3 _ _ _ _ | exact below4 _ _ _ _ _⟩
end Go.Proofs.YtlgdlaohfkgkfaaGreat
