/-
  What the laws of layer 5 call besides: known, num, May, words.
-/
import Derived.Test.YtlgdlaohfkgkfaaMacG
import Derived.Test.YtlgdlaohfkgkfaaEvD
import Derived.Test.YtlgdlaohfkgkfaaOwnA
import Derived.KernelRfl
namespace Go.Proofs.Ytlgdlaohfkgkfaa
open Go.ChangeShapes Go.WideShapes Go.ChangeAt Go.RowKit
set_option linter.unusedVariables false
set_option linter.unusedSimpArgs false
theorem known5_any (w : World) : Calls Try.prog 5 #[] w fun e w' => e = .returned (.bool true) ∧ Below w.heap.size w w' :=
  Ev.closed_true 1000 30 (by kernel_rfl) w
theorem num5_any (e : Int) (w : World) : Calls Try.prog 9 #[.int .i64 e] w fun x w' => x = .returned (.int .i64 e) ∧ w' = w := by
  go_enter Try.func9, Try.ntmps9
  go_wp2
  go_ret
  exact ⟨rfl, rfl⟩
def mayN (n : Int) : Bool := decide (64 ≤ n) && (decide (n ≤ 16777216) && decide (n % 4 = 0))
theorem rmay5_any (n : Int) (h0 : -9223372036854775808 ≤ n) (h1 : n ≤ 9223372036854775807) (w : World) : Calls Try.prog 4 #[.int .i64 n] w fun x w' => x = .returned (.bool (mayN n)) ∧ w' = w := by
  unfold mayN
  by_cases a : 64 ≤ n
  · by_cases b : n ≤ 16777216
    · by_cases c : n % 4 = 0
      · have hc : (n % 4 == 0) = true := by simp [c]
        go_enter Try.func4, Try.ntmps4
        go_wp2
        go_ret
        simp [a, b, c]
      · have hc : (n % 4 == 0) = false := by simp [c]
        go_enter Try.func4, Try.ntmps4
        go_wp2
        go_ret
        simp [a, b, c]
    · go_enter Try.func4, Try.ntmps4
      go_wp2
      go_ret
      simp [a]
      omega
  · go_enter Try.func4, Try.ntmps4
    go_wp2
    go_ret
    simp
    omega
theorem mrw6 (u v : Bool) (a b c op im off cond n : Int) (w : World) :
    Calls Try.prog 21 #[.agg #[.int .i64 6, .bool u, .bool v, .int .i64 a, .int .i64 b, .int .i64 c, .int .i64 op, .int .i64 im, .int .i64 off, .int .i64 cond, .int .i64 n]] w fun e w' => e = .returned (.int .u32 (wd6 cond n)) ∧ Below w.heap.size w w' :=
  (rword_6 u v a b c op im off cond n w).mono fun e w' ⟨h, k, hk⟩ => ⟨h, by rw [hk]; exact (mbelow1 _ _).trans (mdrewN _ _ |>.mono (by simp))⟩
theorem mrd1 (W : World) (x : Int) : Rd (W.alloc (.cells #[.int .u32 x] 23)) (W.alloc (.cells #[.int .u32 x] 23)).heap.size .u32 (some ⟨W.heap.size, 0, none⟩) 1 [x] :=
  ⟨rfl, fun _ => ⟨_, rfl, by simp, fun i hi => by
    obtain rfl : i = 0 := by omega
    rw [show (⟨W.heap.size, 0, none⟩ : Addr).add 0 = ⟨W.heap.size, 0, none⟩ from rfl, World.cell?_alloc_new W _ _ _]
    rfl⟩⟩
/-- the words of the one instruction -/
theorem words17_any (b : Nat) (w : World) (h : w.rangeAt b 0 [.int .i64 6, .bool false, .bool false, .int .i64 0, .int .i64 0, .int .i64 0, .int .i64 0, .int .i64 0, .int .i64 0, .int .i64 7, .int .i64 17]) :
    Calls Try.prog 8 #[.slice (some ⟨b, 0, none⟩) 1 1] w fun e w' => ∃ A c, e = .returned (.slice A 1 c) ∧ Rd w' w'.heap.size .u32 A 1 [w17] ∧ Below w.heap.size w w' := by
  have HW : Hid (∀ W, Calls Try.prog 21 #[.agg #[.int .i64 6, .bool false, .bool false, .int .i64 0, .int .i64 0, .int .i64 0, .int .i64 0, .int .i64 0, .int .i64 0, .int .i64 7, .int .i64 17]] W fun e w' => e = .returned (.int .u32 w17) ∧ Below W.heap.size W w') := Lib.hid (fun W => mrw6 false false 0 0 0 0 0 0 7 17 W)
  have HR := Lib.hid h
  have hi11 : (Try.prog.info? 36).map (·.size) = some ([.int .i64 6, .bool false, .bool false, .int .i64 0, .int .i64 0, .int .i64 0, .int .i64 0, .int .i64 0, .int .i64 0, .int .i64 7, .int .i64 17] : List Value).length := by kernel_rfl
  have HI := Lib.hid hi11
  clear h hi11
  obtain ⟨i0, hi0, hz0, hz1, hz2⟩ : ∃ i, Try.prog.info? 23 = some i ∧ i.zero = some (.int .u32 0) ∧ i.size = 1 ∧ i.bytes = 4 := by
    obtain ⟨i, e1, e2⟩ := Option.map_eq_some_iff.1 infoU32
    exact ⟨i, e1, (Prod.mk.inj e2).1, (Prod.mk.inj (Prod.mk.inj e2).2).1, (Prod.mk.inj (Prod.mk.inj e2).2).2⟩
  go_enter Try.func8, Try.ntmps8
  go_wp2_with fail
  go_loopw [3, 4] (fun v i wr => (i = .int .i64 0 ∧ v = .slice none 0 0 ∧ Hid (Below w.heap.size w wr)) ∨ (i = .int .i64 1 ∧ Hid (wr.ownsRow w.heap.size 23 1 v 1 (valsOf .u32 [w17])) ∧ Hid (Below w.heap.size w wr))) (fun _ i _ => 1 - (intOf i).toNat)
  case atStart => exact .inl ⟨rfl, rfl, Lib.hid (Below.refl _ _)⟩
  case round =>
    rcases hrel with ⟨rfl, rfl, HB⟩ | ⟨rfl, HO, HB⟩
    · have HRC : Hid (wr.rangeAt b 0 [.int .i64 6, .bool false, .bool false, .int .i64 0, .int .i64 0, .int .i64 0, .int .i64 0, .int .i64 0, .int .i64 0, .int .i64 7, .int .i64 17]) := Lib.hid fun j v hv => by
        have h1 := HR.out j v hv
        rw [World.cell?_of_block (HB.out.block b (World.block_lt_of_cell? w _ h1))]
        exact h1
      go_wp2_with (first
        | (with_reducible refine wpList_load_mid rfl 36 _ rfl b 0 rfl _ _ HRC.out Try.underlying36 rfl HI.out ?_)
        | (go_at_call 21; (refine (HW.out _).mono ?_); rintro e v1 ⟨rfl, hb1⟩; have HB1 := Lib.hid (HB.out.trans (hb1.mono HB.out.size)); clear hb1)
        | (at_builtin; refine wpList_append_rd (by rfl) _ _ 22 (by rfl) w.heap.size 23 i0 (.int .u32 0) 4 Try.underlying22 hi0 hz0 hz1 hz2 rfl (.slice none 0 0) 0 (valsOf .u32 []) (by rfl) (World.ownsRow_nil _ _ _ _) _ .u32 _ _ _ [w17] (by rfl) (mrd1 v1 w17) (by unfold maxLen; omega) (by omega) (by have := HB1.out.size; have := (mbelow1 v1 (.cells #[.int .u32 w17] 23)).size; omega) ?_; intro v4 w4 ho4 hg4))
      have HO : Hid (w4.ownsRow w.heap.size 23 1 v4 1 (valsOf .u32 [w17])) := Lib.hid ho4
      have HB4 := Lib.hid (HB1.out.trans (((mbelow1 v1 (.cells #[.int .u32 w17] 23)).mono HB1.out.size).trans ((Below.refl _ _).grown hg4 (by have := HB1.out.size; have := (mbelow1 v1 (.cells #[.int .u32 w17] 23)).size; omega) (fun k hk => by cases hk))))
      clear ho4 hg4
      go_wp2_with fail
      exact ⟨.inr ⟨rfl, HO, HB4⟩, by simp [intOf]⟩
    · obtain ⟨A, c, hv, -, hrd⟩ := rd_own HO.out
      subst hv
      go_wp2_with fail
      go_ret
      exact ⟨A, c, rfl, hrd, HB.out⟩
end Go.Proofs.Ytlgdlaohfkgkfaa
