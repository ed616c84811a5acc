/-
  The contracts of the document's answer for instructions: fields of a word; a word.
-/
import Derived.Test.YtlgdlaohfkgkfaaGreatIsaN
import Derived.Test.YtlgdlaohfkgkfaaGreatWordA
import Derived.Deep.QuietTactic
import Derived.BigQuiet
import Derived.Outline
namespace Go.Proofs.YtlgdlaohfkgkfaaGreat
open Go.ChangeShapes Go.WideShapes Go.ChangeAt Go.RowKit
set_option linter.unusedVariables false

/-- bits behind others -/
def fd (w n : Int) (s : Nat) : Int := (w * 2 ^ s + n % 2 ^ s) % 18446744073709551616
theorem rone_any (u : Bool) (w : World) : Calls Tryz.prog 63 #[.bool u] w fun e w' => e = .returned (.int .i64 (bit u)) ∧ w = w' := by
  cases u
  all_goals
    go_enter Tryz.func63, Tryz.ntmps63
    go_wp2
    go_ret
    exact ⟨rfl, rfl⟩

theorem field_1 (a n : Int) (w : World) : Calls Tryz.prog 62 #[.int .u64 a, .int .i64 n, .int .i64 1] w fun e w' => e = .returned (.int .u64 (fd a n 1)) ∧ w = w' := by
  by_cases h : n.tmod 2 < 0
  · have h1 : -2 < n.tmod 2 := by have := Int.tmod_lt_of_pos (-n) (show (0 : Int) < 2 by omega); rw [Int.neg_tmod] at this; omega
    go_enter Tryz.func62, Tryz.ntmps62
    go_wp2
    go_ret
    refine ⟨ret_int ?_, rfl⟩
    unfold fd
    have e := Int.tmod_eq_emod (a := n) (b := 2)
    simp only [IntKind.wrap_u64]
    split at e <;> (simp at e ⊢; omega)
  · have h1 : n.tmod 2 < 2 := Int.tmod_lt_of_pos n (by omega)
    go_enter Tryz.func62, Tryz.ntmps62
    go_wp2
    go_ret
    refine ⟨ret_int ?_, rfl⟩
    unfold fd
    have e := Int.tmod_eq_emod (a := n) (b := 2)
    simp only [IntKind.wrap_u64]
    split at e <;> (simp at e ⊢; omega)

theorem field_2 (a n : Int) (w : World) : Calls Tryz.prog 62 #[.int .u64 a, .int .i64 n, .int .i64 2] w fun e w' => e = .returned (.int .u64 (fd a n 2)) ∧ w = w' := by
  by_cases h : n.tmod 4 < 0
  · have h1 : -4 < n.tmod 4 := by have := Int.tmod_lt_of_pos (-n) (show (0 : Int) < 4 by omega); rw [Int.neg_tmod] at this; omega
    go_enter Tryz.func62, Tryz.ntmps62
    go_wp2
    go_ret
    refine ⟨ret_int ?_, rfl⟩
    unfold fd
    have e := Int.tmod_eq_emod (a := n) (b := 4)
    simp only [IntKind.wrap_u64]
    split at e <;> (simp at e ⊢; omega)
  · have h1 : n.tmod 4 < 4 := Int.tmod_lt_of_pos n (by omega)
    go_enter Tryz.func62, Tryz.ntmps62
    go_wp2
    go_ret
    refine ⟨ret_int ?_, rfl⟩
    unfold fd
    have e := Int.tmod_eq_emod (a := n) (b := 4)
    simp only [IntKind.wrap_u64]
    split at e <;> (simp at e ⊢; omega)

theorem field_4 (a n : Int) (w : World) : Calls Tryz.prog 62 #[.int .u64 a, .int .i64 n, .int .i64 4] w fun e w' => e = .returned (.int .u64 (fd a n 4)) ∧ w = w' := by
  by_cases h : n.tmod 16 < 0
  · have h1 : -16 < n.tmod 16 := by have := Int.tmod_lt_of_pos (-n) (show (0 : Int) < 16 by omega); rw [Int.neg_tmod] at this; omega
    go_enter Tryz.func62, Tryz.ntmps62
    go_wp2
    go_ret
    refine ⟨ret_int ?_, rfl⟩
    unfold fd
    have e := Int.tmod_eq_emod (a := n) (b := 16)
    simp only [IntKind.wrap_u64]
    split at e <;> (simp at e ⊢; omega)
  · have h1 : n.tmod 16 < 16 := Int.tmod_lt_of_pos n (by omega)
    go_enter Tryz.func62, Tryz.ntmps62
    go_wp2
    go_ret
    refine ⟨ret_int ?_, rfl⟩
    unfold fd
    have e := Int.tmod_eq_emod (a := n) (b := 16)
    simp only [IntKind.wrap_u64]
    split at e <;> (simp at e ⊢; omega)

theorem field_8 (a n : Int) (w : World) : Calls Tryz.prog 62 #[.int .u64 a, .int .i64 n, .int .i64 8] w fun e w' => e = .returned (.int .u64 (fd a n 8)) ∧ w = w' := by
  by_cases h : n.tmod 256 < 0
  · have h1 : -256 < n.tmod 256 := by have := Int.tmod_lt_of_pos (-n) (show (0 : Int) < 256 by omega); rw [Int.neg_tmod] at this; omega
    go_enter Tryz.func62, Tryz.ntmps62
    go_wp2
    go_ret
    refine ⟨ret_int ?_, rfl⟩
    unfold fd
    have e := Int.tmod_eq_emod (a := n) (b := 256)
    simp only [IntKind.wrap_u64]
    split at e <;> (simp at e ⊢; omega)
  · have h1 : n.tmod 256 < 256 := Int.tmod_lt_of_pos n (by omega)
    go_enter Tryz.func62, Tryz.ntmps62
    go_wp2
    go_ret
    refine ⟨ret_int ?_, rfl⟩
    unfold fd
    have e := Int.tmod_eq_emod (a := n) (b := 256)
    simp only [IntKind.wrap_u64]
    split at e <;> (simp at e ⊢; omega)

theorem field_12 (a n : Int) (w : World) : Calls Tryz.prog 62 #[.int .u64 a, .int .i64 n, .int .i64 12] w fun e w' => e = .returned (.int .u64 (fd a n 12)) ∧ w = w' := by
  by_cases h : n.tmod 4096 < 0
  · have h1 : -4096 < n.tmod 4096 := by have := Int.tmod_lt_of_pos (-n) (show (0 : Int) < 4096 by omega); rw [Int.neg_tmod] at this; omega
    go_enter Tryz.func62, Tryz.ntmps62
    go_wp2
    go_ret
    refine ⟨ret_int ?_, rfl⟩
    unfold fd
    have e := Int.tmod_eq_emod (a := n) (b := 4096)
    simp only [IntKind.wrap_u64]
    split at e <;> (simp at e ⊢; omega)
  · have h1 : n.tmod 4096 < 4096 := Int.tmod_lt_of_pos n (by omega)
    go_enter Tryz.func62, Tryz.ntmps62
    go_wp2
    go_ret
    refine ⟨ret_int ?_, rfl⟩
    unfold fd
    have e := Int.tmod_eq_emod (a := n) (b := 4096)
    simp only [IntKind.wrap_u64]
    split at e <;> (simp at e ⊢; omega)

theorem field_16 (a n : Int) (w : World) : Calls Tryz.prog 62 #[.int .u64 a, .int .i64 n, .int .i64 16] w fun e w' => e = .returned (.int .u64 (fd a n 16)) ∧ w = w' := by
  by_cases h : n.tmod 65536 < 0
  · have h1 : -65536 < n.tmod 65536 := by have := Int.tmod_lt_of_pos (-n) (show (0 : Int) < 65536 by omega); rw [Int.neg_tmod] at this; omega
    go_enter Tryz.func62, Tryz.ntmps62
    go_wp2
    go_ret
    refine ⟨ret_int ?_, rfl⟩
    unfold fd
    have e := Int.tmod_eq_emod (a := n) (b := 65536)
    simp only [IntKind.wrap_u64]
    split at e <;> (simp at e ⊢; omega)
  · have h1 : n.tmod 65536 < 65536 := Int.tmod_lt_of_pos n (by omega)
    go_enter Tryz.func62, Tryz.ntmps62
    go_wp2
    go_ret
    refine ⟨ret_int ?_, rfl⟩
    unfold fd
    have e := Int.tmod_eq_emod (a := n) (b := 65536)
    simp only [IntKind.wrap_u64]
    split at e <;> (simp at e ⊢; omega)

theorem field_20 (a n : Int) (w : World) : Calls Tryz.prog 62 #[.int .u64 a, .int .i64 n, .int .i64 20] w fun e w' => e = .returned (.int .u64 (fd a n 20)) ∧ w = w' := by
  by_cases h : n.tmod 1048576 < 0
  · have h1 : -1048576 < n.tmod 1048576 := by have := Int.tmod_lt_of_pos (-n) (show (0 : Int) < 1048576 by omega); rw [Int.neg_tmod] at this; omega
    go_enter Tryz.func62, Tryz.ntmps62
    go_wp2
    go_ret
    refine ⟨ret_int ?_, rfl⟩
    unfold fd
    have e := Int.tmod_eq_emod (a := n) (b := 1048576)
    simp only [IntKind.wrap_u64]
    split at e <;> (simp at e ⊢; omega)
  · have h1 : n.tmod 1048576 < 1048576 := Int.tmod_lt_of_pos n (by omega)
    go_enter Tryz.func62, Tryz.ntmps62
    go_wp2
    go_ret
    refine ⟨ret_int ?_, rfl⟩
    unfold fd
    have e := Int.tmod_eq_emod (a := n) (b := 1048576)
    simp only [IntKind.wrap_u64]
    split at e <;> (simp at e ⊢; omega)

theorem field_24 (a n : Int) (w : World) : Calls Tryz.prog 62 #[.int .u64 a, .int .i64 n, .int .i64 24] w fun e w' => e = .returned (.int .u64 (fd a n 24)) ∧ w = w' := by
  by_cases h : n.tmod 16777216 < 0
  · have h1 : -16777216 < n.tmod 16777216 := by have := Int.tmod_lt_of_pos (-n) (show (0 : Int) < 16777216 by omega); rw [Int.neg_tmod] at this; omega
    go_enter Tryz.func62, Tryz.ntmps62
    go_wp2
    go_ret
    refine ⟨ret_int ?_, rfl⟩
    unfold fd
    have e := Int.tmod_eq_emod (a := n) (b := 16777216)
    simp only [IntKind.wrap_u64]
    split at e <;> (simp at e ⊢; omega)
  · have h1 : n.tmod 16777216 < 16777216 := Int.tmod_lt_of_pos n (by omega)
    go_enter Tryz.func62, Tryz.ntmps62
    go_wp2
    go_ret
    refine ⟨ret_int ?_, rfl⟩
    unfold fd
    have e := Int.tmod_eq_emod (a := n) (b := 16777216)
    simp only [IntKind.wrap_u64]
    split at e <;> (simp at e ⊢; omega)

theorem field_any (a n k : Int) (hk : k = 1 ∨ k = 2 ∨ k = 4 ∨ k = 8 ∨ k = 12 ∨ k = 16 ∨ k = 20 ∨ k = 24) (w : World) : Calls Tryz.prog 62 #[.int .u64 a, .int .i64 n, .int .i64 k] w fun e w' => e = .returned (.int .u64 (fd a n k.toNat)) ∧ w = w' := by
  rcases hk with rfl | rfl | rfl | rfl | rfl | rfl | rfl | rfl
  · exact field_1 a n w
  · exact field_2 a n w
  · exact field_4 a n w
  · exact field_8 a n w
  · exact field_12 a n w
  · exact field_16 a n w
  · exact field_20 a n w
  · exact field_24 a n w

theorem field_q (a n k : Int) (hk : k = 1 ∨ k = 2 ∨ k = 4 ∨ k = 8 ∨ k = 12 ∨ k = 16 ∨ k = 20 ∨ k = 24) (w : World) : Calls Tryz.prog 62 #[.int .u64 a, .int .i64 n, .int .i64 k] w fun e w' => e = .returned (.int .u64 (fd a n k.toNat)) ∧ w' = w :=
  (field_any a n k hk w).mono fun _ _ h => ⟨h.1, h.2.symm⟩
theorem rone_q (u : Bool) (w : World) : Calls Tryz.prog 63 #[.bool u] w fun e w' => e = .returned (.int .i64 (bit u)) ∧ w' = w :=
  (rone_any u w).mono fun _ _ h => ⟨h.1, h.2.symm⟩

/-- words, by form -/
def wd01 (f : Int) (u v : Bool) (a b op k : Int) : Int := w32 (fd (fd (fd (fd (fd (fd (fd 0 f 2) (bit u) 1) (bit v) 1) a 4) b 4) op 4) k 16)
def wd23 (k : Int) (v : Bool) (a b off : Int) : Int := w32 (fd (fd (fd (fd (fd (fd 0 2 2) k 1) (bit v) 1) a 4) b 4) off 20)
def wd4 (v : Bool) (cond off : Int) : Int := w32 (fd (fd (fd (fd (fd 0 3 2) 1 1) (bit v) 1) cond 4) off 24)
def wd5 (v : Bool) (cond c : Int) : Int := w32 (fd (fd (fd (fd (fd 0 3 2) 0 1) (bit v) 1) cond 4) c 24)
def wd6 (cond n : Int) : Int := w32 (fd (fd (fd (fd (fd (fd (fd 0 3 2) 0 1) 1 1) cond 4) 0 12) n 8) 12 4)

set_option maxHeartbeats 4000000 in
theorem rword_0 (u v : Bool) (a b c op im off cond n : Int) (m0 : 0 ≤ im) (m1 : im ≤ 65535) (c0 : 0 ≤ c) (c1 : c ≤ 15) (w : World) :
    Calls Tryz.prog 34 #[.agg #[.int .i64 0, .bool u, .bool v, .int .i64 a, .int .i64 b, .int .i64 c, .int .i64 op, .int .i64 im, .int .i64 off, .int .i64 cond, .int .i64 n]] w fun e w' => e = .returned (.int .u32 (wd01 0 u v a b op (im + c))) ∧ ∃ k, w' = (w.alloc (.cells #[.int .i64 0, .bool u, .bool v, .int .i64 a, .int .i64 b, .int .i64 c, .int .i64 op, .int .i64 im, .int .i64 off, .int .i64 cond, .int .i64 n] 64)).drewN k := by
  go_enter Tryz.func34, Tryz.ntmps34
  go_wp2
  go_quiet ((first | (go_at_call 62; exact Calls.quiet_of_same (field_q _ _ _ (by omega) _)) | (go_at_call 63; exact Calls.quiet_of_same (rone_q _ _))))
  go_wp2_with (go_at_call 62; (with_reducible refine (field_any _ _ _ (by omega) _).mono ?_); rintro e w' ⟨rfl, rfl⟩)
  go_ret
  exact ⟨rfl, _, rfl⟩

set_option maxHeartbeats 4000000 in
theorem rword_1 (u v : Bool) (a b c op im off cond n : Int) (m0 : 0 ≤ im) (m1 : im ≤ 65535) (c0 : 0 ≤ c) (c1 : c ≤ 15) (w : World) :
    Calls Tryz.prog 34 #[.agg #[.int .i64 1, .bool u, .bool v, .int .i64 a, .int .i64 b, .int .i64 c, .int .i64 op, .int .i64 im, .int .i64 off, .int .i64 cond, .int .i64 n]] w fun e w' => e = .returned (.int .u32 (wd01 1 u v a b op (im + c))) ∧ ∃ k, w' = (w.alloc (.cells #[.int .i64 1, .bool u, .bool v, .int .i64 a, .int .i64 b, .int .i64 c, .int .i64 op, .int .i64 im, .int .i64 off, .int .i64 cond, .int .i64 n] 64)).drewN k := by
  go_enter Tryz.func34, Tryz.ntmps34
  go_wp2
  go_quiet ((first | (go_at_call 62; exact Calls.quiet_of_same (field_q _ _ _ (by omega) _)) | (go_at_call 63; exact Calls.quiet_of_same (rone_q _ _))))
  go_wp2_with (go_at_call 62; (with_reducible refine (field_any _ _ _ (by omega) _).mono ?_); rintro e w' ⟨rfl, rfl⟩)
  go_ret
  exact ⟨rfl, _, rfl⟩

set_option maxHeartbeats 4000000 in
theorem rword_2 (u v : Bool) (a b c op im off cond n : Int)  (w : World) :
    Calls Tryz.prog 34 #[.agg #[.int .i64 2, .bool u, .bool v, .int .i64 a, .int .i64 b, .int .i64 c, .int .i64 op, .int .i64 im, .int .i64 off, .int .i64 cond, .int .i64 n]] w fun e w' => e = .returned (.int .u32 (wd23 0 v a b off)) ∧ ∃ k, w' = (w.alloc (.cells #[.int .i64 2, .bool u, .bool v, .int .i64 a, .int .i64 b, .int .i64 c, .int .i64 op, .int .i64 im, .int .i64 off, .int .i64 cond, .int .i64 n] 64)).drewN k := by
  go_enter Tryz.func34, Tryz.ntmps34
  go_wp2
  go_quiet ((first | (go_at_call 62; exact Calls.quiet_of_same (field_q _ _ _ (by omega) _)) | (go_at_call 63; exact Calls.quiet_of_same (rone_q _ _))))
  go_wp2_with (go_at_call 62; (with_reducible refine (field_any _ _ _ (by omega) _).mono ?_); rintro e w' ⟨rfl, rfl⟩)
  go_ret
  exact ⟨rfl, _, rfl⟩

set_option maxHeartbeats 4000000 in
theorem rword_3 (u v : Bool) (a b c op im off cond n : Int)  (w : World) :
    Calls Tryz.prog 34 #[.agg #[.int .i64 3, .bool u, .bool v, .int .i64 a, .int .i64 b, .int .i64 c, .int .i64 op, .int .i64 im, .int .i64 off, .int .i64 cond, .int .i64 n]] w fun e w' => e = .returned (.int .u32 (wd23 1 v a b off)) ∧ ∃ k, w' = (w.alloc (.cells #[.int .i64 3, .bool u, .bool v, .int .i64 a, .int .i64 b, .int .i64 c, .int .i64 op, .int .i64 im, .int .i64 off, .int .i64 cond, .int .i64 n] 64)).drewN k := by
  go_enter Tryz.func34, Tryz.ntmps34
  go_wp2
  go_quiet ((first | (go_at_call 62; exact Calls.quiet_of_same (field_q _ _ _ (by omega) _)) | (go_at_call 63; exact Calls.quiet_of_same (rone_q _ _))))
  go_wp2_with (go_at_call 62; (with_reducible refine (field_any _ _ _ (by omega) _).mono ?_); rintro e w' ⟨rfl, rfl⟩)
  go_ret
  exact ⟨rfl, _, rfl⟩

set_option maxHeartbeats 4000000 in
theorem rword_4 (u v : Bool) (a b c op im off cond n : Int)  (w : World) :
    Calls Tryz.prog 34 #[.agg #[.int .i64 4, .bool u, .bool v, .int .i64 a, .int .i64 b, .int .i64 c, .int .i64 op, .int .i64 im, .int .i64 off, .int .i64 cond, .int .i64 n]] w fun e w' => e = .returned (.int .u32 (wd4 v cond off)) ∧ ∃ k, w' = (w.alloc (.cells #[.int .i64 4, .bool u, .bool v, .int .i64 a, .int .i64 b, .int .i64 c, .int .i64 op, .int .i64 im, .int .i64 off, .int .i64 cond, .int .i64 n] 64)).drewN k := by
  go_enter Tryz.func34, Tryz.ntmps34
  go_wp2
  go_quiet ((first | (go_at_call 62; exact Calls.quiet_of_same (field_q _ _ _ (by omega) _)) | (go_at_call 63; exact Calls.quiet_of_same (rone_q _ _))))
  go_wp2_with (go_at_call 62; (with_reducible refine (field_any _ _ _ (by omega) _).mono ?_); rintro e w' ⟨rfl, rfl⟩)
  go_ret
  exact ⟨rfl, _, rfl⟩

set_option maxHeartbeats 4000000 in
theorem rword_5 (u v : Bool) (a b c op im off cond n : Int)  (w : World) :
    Calls Tryz.prog 34 #[.agg #[.int .i64 5, .bool u, .bool v, .int .i64 a, .int .i64 b, .int .i64 c, .int .i64 op, .int .i64 im, .int .i64 off, .int .i64 cond, .int .i64 n]] w fun e w' => e = .returned (.int .u32 (wd5 v cond c)) ∧ ∃ k, w' = (w.alloc (.cells #[.int .i64 5, .bool u, .bool v, .int .i64 a, .int .i64 b, .int .i64 c, .int .i64 op, .int .i64 im, .int .i64 off, .int .i64 cond, .int .i64 n] 64)).drewN k := by
  go_enter Tryz.func34, Tryz.ntmps34
  go_wp2
  go_quiet ((first | (go_at_call 62; exact Calls.quiet_of_same (field_q _ _ _ (by omega) _)) | (go_at_call 63; exact Calls.quiet_of_same (rone_q _ _))))
  go_wp2_with (go_at_call 62; (with_reducible refine (field_any _ _ _ (by omega) _).mono ?_); rintro e w' ⟨rfl, rfl⟩)
  go_ret
  exact ⟨rfl, _, rfl⟩

set_option maxHeartbeats 4000000 in
theorem rword_6 (u v : Bool) (a b c op im off cond n : Int)  (w : World) :
    Calls Tryz.prog 34 #[.agg #[.int .i64 6, .bool u, .bool v, .int .i64 a, .int .i64 b, .int .i64 c, .int .i64 op, .int .i64 im, .int .i64 off, .int .i64 cond, .int .i64 n]] w fun e w' => e = .returned (.int .u32 (wd6 cond n)) ∧ ∃ k, w' = (w.alloc (.cells #[.int .i64 6, .bool u, .bool v, .int .i64 a, .int .i64 b, .int .i64 c, .int .i64 op, .int .i64 im, .int .i64 off, .int .i64 cond, .int .i64 n] 64)).drewN k := by
  go_enter Tryz.func34, Tryz.ntmps34
  go_wp2
  go_quiet ((first | (go_at_call 62; exact Calls.quiet_of_same (field_q _ _ _ (by omega) _)) | (go_at_call 63; exact Calls.quiet_of_same (rone_q _ _))))
  go_wp2_with (go_at_call 62; (with_reducible refine (field_any _ _ _ (by omega) _).mono ?_); rintro e w' ⟨rfl, rfl⟩)
  go_ret
  exact ⟨rfl, _, rfl⟩

end Go.Proofs.YtlgdlaohfkgkfaaGreat
