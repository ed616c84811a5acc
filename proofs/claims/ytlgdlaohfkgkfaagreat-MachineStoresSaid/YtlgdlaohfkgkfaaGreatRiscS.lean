/-
  The contract of Step of package risc: stores: by the registers' numbers, reckoned by the kernel.
-/
import Derived.Test.YtlgdlaohfkgkfaaGreatRiscE
import Derived.Test.YtlgdlaohfkgkfaaGreatEvD
import Derived.KernelRfl
namespace Go.Proofs.YtlgdlaohfkgkfaaGreat
open Go.ChangeShapes Go.WideShapes Go.ChangeAt Go.RowKit
set_option linter.unusedVariables false
set_option linter.unusedSimpArgs false
noncomputable section
namespace stores
def cpuI (pc : Ev.SI) : Ev.AV := .agg [.int .u32 (.atom 100), .int .u32 (.atom 101), .int .u32 (.atom 102), .int .u32 (.atom 103), .int .u32 (.atom 104), .int .u32 (.atom 105), .int .u32 (.atom 106), .int .u32 (.atom 107), .int .u32 (.atom 108), .int .u32 (.atom 109), .int .u32 (.atom 110), .int .u32 (.atom 111), .int .u32 (.atom 112), .int .u32 (.atom 113), .int .u32 (.atom 114), .int .u32 (.atom 115), .int .u32 (.atom 116), .bool (.atom 10), .bool (.atom 11), .bool (.atom 12), .bool (.atom 13), .int .u32 pc]
def insI (A B : Nat) : Ev.AV := .agg [.int .i64 (.lit 3), .bool (.atom 0), .bool (.atom 1), .int .i64 (.lit (.ofNat A)), .int .i64 (.lit (.ofNat B)), .int .i64 (.atom 5), .int .i64 (.atom 6), .int .i64 (.atom 7), .int .i64 (.atom 8), .int .i64 (.atom 9), .int .i64 (.atom 10)]
def run (φ : Ev.Val → Prop) (v : Bool) (A B : Nat) : Option Ev.AV := Ev.outV ((Ev.evO Tryz.prog ⟨[(.atom 1, v)], φ, Ev.noG⟩ (Ev.orcL [⟨90, [.int .u32 (.atom 60)], .tuple [insI A B, .int .i64 (.lit 0)]⟩]) 1000 30 (.fn 68) [cpuI (.atom 117), .int .u32 (.atom 60)]).go .e 0)
def told (v : Bool) (A B : Nat) : Ev.AV := .tuple [cpuI (.bin .add .u32 (.atom 117) (.lit 1)), .agg [.int .i64 (.lit 2), .int .u32 (.bin .add .u32 (.atom (100 + B)) (.wrap .u32 (.atom 8))), .bool (.atom 1), .int .i64 (.lit (.ofNat B)), .int .u32 (bif v then .bin .and .u32 (.atom (100 + A)) (.lit 255) else .atom (100 + A)), .int .i64 (.lit 0)]]
theorem s0_true (φ : Ev.Val → Prop) : (List.range 16).map (run φ true 0) = (List.range 16).map (fun B => some (told true 0 B)) := by kernel_rfl
theorem s0_false (φ : Ev.Val → Prop) : (List.range 16).map (run φ false 0) = (List.range 16).map (fun B => some (told false 0 B)) := by kernel_rfl
theorem s1_true (φ : Ev.Val → Prop) : (List.range 16).map (run φ true 1) = (List.range 16).map (fun B => some (told true 1 B)) := by kernel_rfl
theorem s1_false (φ : Ev.Val → Prop) : (List.range 16).map (run φ false 1) = (List.range 16).map (fun B => some (told false 1 B)) := by kernel_rfl
theorem s2_true (φ : Ev.Val → Prop) : (List.range 16).map (run φ true 2) = (List.range 16).map (fun B => some (told true 2 B)) := by kernel_rfl
theorem s2_false (φ : Ev.Val → Prop) : (List.range 16).map (run φ false 2) = (List.range 16).map (fun B => some (told false 2 B)) := by kernel_rfl
theorem s3_true (φ : Ev.Val → Prop) : (List.range 16).map (run φ true 3) = (List.range 16).map (fun B => some (told true 3 B)) := by kernel_rfl
theorem s3_false (φ : Ev.Val → Prop) : (List.range 16).map (run φ false 3) = (List.range 16).map (fun B => some (told false 3 B)) := by kernel_rfl
theorem s4_true (φ : Ev.Val → Prop) : (List.range 16).map (run φ true 4) = (List.range 16).map (fun B => some (told true 4 B)) := by kernel_rfl
theorem s4_false (φ : Ev.Val → Prop) : (List.range 16).map (run φ false 4) = (List.range 16).map (fun B => some (told false 4 B)) := by kernel_rfl
theorem s5_true (φ : Ev.Val → Prop) : (List.range 16).map (run φ true 5) = (List.range 16).map (fun B => some (told true 5 B)) := by kernel_rfl
theorem s5_false (φ : Ev.Val → Prop) : (List.range 16).map (run φ false 5) = (List.range 16).map (fun B => some (told false 5 B)) := by kernel_rfl
theorem s6_true (φ : Ev.Val → Prop) : (List.range 16).map (run φ true 6) = (List.range 16).map (fun B => some (told true 6 B)) := by kernel_rfl
theorem s6_false (φ : Ev.Val → Prop) : (List.range 16).map (run φ false 6) = (List.range 16).map (fun B => some (told false 6 B)) := by kernel_rfl
theorem s7_true (φ : Ev.Val → Prop) : (List.range 16).map (run φ true 7) = (List.range 16).map (fun B => some (told true 7 B)) := by kernel_rfl
theorem s7_false (φ : Ev.Val → Prop) : (List.range 16).map (run φ false 7) = (List.range 16).map (fun B => some (told false 7 B)) := by kernel_rfl
theorem s8_true (φ : Ev.Val → Prop) : (List.range 16).map (run φ true 8) = (List.range 16).map (fun B => some (told true 8 B)) := by kernel_rfl
theorem s8_false (φ : Ev.Val → Prop) : (List.range 16).map (run φ false 8) = (List.range 16).map (fun B => some (told false 8 B)) := by kernel_rfl
theorem s9_true (φ : Ev.Val → Prop) : (List.range 16).map (run φ true 9) = (List.range 16).map (fun B => some (told true 9 B)) := by kernel_rfl
theorem s9_false (φ : Ev.Val → Prop) : (List.range 16).map (run φ false 9) = (List.range 16).map (fun B => some (told false 9 B)) := by kernel_rfl
theorem s10_true (φ : Ev.Val → Prop) : (List.range 16).map (run φ true 10) = (List.range 16).map (fun B => some (told true 10 B)) := by kernel_rfl
theorem s10_false (φ : Ev.Val → Prop) : (List.range 16).map (run φ false 10) = (List.range 16).map (fun B => some (told false 10 B)) := by kernel_rfl
theorem s11_true (φ : Ev.Val → Prop) : (List.range 16).map (run φ true 11) = (List.range 16).map (fun B => some (told true 11 B)) := by kernel_rfl
theorem s11_false (φ : Ev.Val → Prop) : (List.range 16).map (run φ false 11) = (List.range 16).map (fun B => some (told false 11 B)) := by kernel_rfl
theorem s12_true (φ : Ev.Val → Prop) : (List.range 16).map (run φ true 12) = (List.range 16).map (fun B => some (told true 12 B)) := by kernel_rfl
theorem s12_false (φ : Ev.Val → Prop) : (List.range 16).map (run φ false 12) = (List.range 16).map (fun B => some (told false 12 B)) := by kernel_rfl
theorem s13_true (φ : Ev.Val → Prop) : (List.range 16).map (run φ true 13) = (List.range 16).map (fun B => some (told true 13 B)) := by kernel_rfl
theorem s13_false (φ : Ev.Val → Prop) : (List.range 16).map (run φ false 13) = (List.range 16).map (fun B => some (told false 13 B)) := by kernel_rfl
theorem s14_true (φ : Ev.Val → Prop) : (List.range 16).map (run φ true 14) = (List.range 16).map (fun B => some (told true 14 B)) := by kernel_rfl
theorem s14_false (φ : Ev.Val → Prop) : (List.range 16).map (run φ false 14) = (List.range 16).map (fun B => some (told false 14 B)) := by kernel_rfl
theorem s15_true (φ : Ev.Val → Prop) : (List.range 16).map (run φ true 15) = (List.range 16).map (fun B => some (told true 15 B)) := by kernel_rfl
theorem s15_false (φ : Ev.Val → Prop) : (List.range 16).map (run φ false 15) = (List.range 16).map (fun B => some (told false 15 B)) := by kernel_rfl
theorem all_s (φ : Ev.Val → Prop) (v : Bool) (A B : Nat) (hA : A < 16) (hB : B < 16) : run φ v A B = some (told v A B) := by
  have key : (List.range 16).map (run φ v A) = (List.range 16).map (fun B => some (told v A B)) := by
    have : A = 0 ∨ A = 1 ∨ A = 2 ∨ A = 3 ∨ A = 4 ∨ A = 5 ∨ A = 6 ∨ A = 7 ∨ A = 8 ∨ A = 9 ∨ A = 10 ∨ A = 11 ∨ A = 12 ∨ A = 13 ∨ A = 14 ∨ A = 15 := by omega
    cases v
    · rcases this with rfl | rfl | rfl | rfl | rfl | rfl | rfl | rfl | rfl | rfl | rfl | rfl | rfl | rfl | rfl | rfl
      · exact s0_false φ
      · exact s1_false φ
      · exact s2_false φ
      · exact s3_false φ
      · exact s4_false φ
      · exact s5_false φ
      · exact s6_false φ
      · exact s7_false φ
      · exact s8_false φ
      · exact s9_false φ
      · exact s10_false φ
      · exact s11_false φ
      · exact s12_false φ
      · exact s13_false φ
      · exact s14_false φ
      · exact s15_false φ
    · rcases this with rfl | rfl | rfl | rfl | rfl | rfl | rfl | rfl | rfl | rfl | rfl | rfl | rfl | rfl | rfl | rfl
      · exact s0_true φ
      · exact s1_true φ
      · exact s2_true φ
      · exact s3_true φ
      · exact s4_true φ
      · exact s5_true φ
      · exact s6_true φ
      · exact s7_true φ
      · exact s8_true φ
      · exact s9_true φ
      · exact s10_true φ
      · exact s11_true φ
      · exact s12_true φ
      · exact s13_true φ
      · exact s14_true φ
      · exact s15_true φ
  exact List.map_inj_left.1 key B (List.mem_range.2 hB)
def stVal (c : Cpu) (u v : Bool) (ci op im off cond n x : Int) : Ev.Val := Ev.Val.of (fun k => if k = 60 then x else if k = 5 then ci else if k = 6 then op else if k = 7 then im else if k = 8 then off else if k = 9 then cond else if k = 10 then n else if k = 116 then c.h else if k = 117 then c.pc else c.r (k - 100)) (fun k => if k = 0 then u else if k = 1 then v else if k = 10 then c.n else if k = 11 then c.z else if k = 12 then c.c else c.v)
theorem st_reg {c : Cpu} {u v : Bool} {ci op im off cond n x : Int} (k : Nat) (hk : k < 16) : (stVal c u v ci op im off cond n x).i (100 + k) = c.r k := by
  show (if 100 + k = 60 then x else if 100 + k = 5 then ci else if 100 + k = 6 then op else if 100 + k = 7 then im else if 100 + k = 8 then off else if 100 + k = 9 then cond else if 100 + k = 10 then n else if 100 + k = 116 then c.h else if 100 + k = 117 then c.pc else c.r (100 + k - 100)) = c.r k
  rw [if_neg (by omega), if_neg (by omega), if_neg (by omega), if_neg (by omega), if_neg (by omega), if_neg (by omega), if_neg (by omega), if_neg (by omega), if_neg (by omega), Nat.add_sub_cancel_left]
end stores
open stores
theorem step_store (c : Cpu) (x : Int) (u v : Bool) (a b ci op im off cond n : Int) (x0 : 0 ≤ x) (x1 : x ≤ 4294967295) (hd : dec x = (⟨3, u, v, a, b, ci, op, im, off, cond, n⟩, false)) (hr : ∀ k, 0 ≤ c.r k ∧ c.r k ≤ 4294967295) (A B : Nat) (hA : A < 16) (hB : B < 16) (ia : a = A) (ib : b = B) (w : World) :
    Calls Tryz.prog 68 #[.agg (cpuCells c), .int .u32 x] w (StepIs (nextC c) 2 (w32 (c.r B + off)) v b (stV v (c.r A)) 0 w) := by
  subst ia ib
  have hrun := all_s (fun σ => σ = stVal c u v ci op im off cond n x) v A B hA hB
  have hcpu : ∀ μ, Ev.rel (stVal c u v ci op im off cond n x) μ (cpuI (.atom 117)) (.agg (cpuCells c)) := fun μ => ⟨(cpuCells c).toList, by simp, rfl, rfl, rfl, rfl, rfl, rfl, rfl, rfl, rfl, rfl, rfl, rfl, rfl, rfl, rfl, rfl, rfl, rfl, rfl, rfl, rfl, rfl, trivial⟩
  have hins : ∀ μ, Ev.rel (stVal c u v ci op im off cond n x) μ (insI A B) (insV ⟨3, u, v, A, B, ci, op, im, off, cond, n⟩) := fun μ => ⟨(insCells ⟨3, u, v, A, B, ci, op, im, off, cond, n⟩).toList, rfl, rfl, rfl, rfl, rfl, rfl, rfl, rfl, rfl, rfl, rfl, rfl, trivial⟩
  refine (Ev.calls_of (A := ⟨[(.atom 1, v)], fun σ => σ = stVal c u v ci op im off cond n x, Ev.noG⟩) (Ev.orcL_ok _ (Ev.ents_cons (Ev.EntOk.of (e := ⟨90, [.int .u32 (.atom 60)], .tuple [insI A B, .int .i64 (.lit 0)]⟩) rfl [.int .u32 x] ⟨rfl, trivial⟩ (v := .tuple #[insV ⟨3, u, v, A, B, ci, op, im, off, cond, n⟩, .int .i64 0]) (fun μ => ⟨[_, _], rfl, hins μ, rfl, trivial⟩) fun W => of_fine x _ x0 x1 hd W) Ev.ents_nil)) 1000 30 hrun (stVal c u v ci op im off cond n x) ⟨fun q hq => ?_, rfl, Ev.noG_ok _⟩ [.agg (cpuCells c), .int .u32 x] w ⟨trivial, Nat.zero_le _⟩ ⟨hcpu _, rfl, trivial⟩).mono ?_
  · simp only [List.mem_cons, List.not_mem_nil, or_false] at hq
    subst hq
    rfl
  · rintro e w' ⟨y, μ, rfl, hy, hb⟩
    refine ⟨?_, hb⟩
    obtain ⟨xs, rfl, hxs⟩ := hy
    obtain ⟨y0, y1, rfl⟩ : ∃ y0 y1, xs = [y0, y1] := by
      rcases xs with _ | ⟨y0, _ | ⟨y1, _ | ⟨y2, l⟩⟩⟩
      · exact hxs.elim
      · exact hxs.2.elim
      · exact ⟨y0, y1, rfl⟩
      · exact hxs.2.2.elim
    have h0 : y0 = .agg (cpuCells (nextC c)) := by
      refine Ev.rel_fun 4 _ _ _ rfl hxs.1 (ν := μ) ⟨(cpuCells (nextC c)).toList, by simp, rfl, rfl, rfl, rfl, rfl, rfl, rfl, rfl, rfl, rfl, rfl, rfl, rfl, rfl, rfl, rfl, rfl, rfl, rfl, rfl, rfl, congrArg (Value.int .u32) ?_, trivial⟩
      show w32 (c.pc + 1) = IntKind.u32.wrap (c.pc + 1)
      rw [IntKind.wrap_u32]; rfl
    have h1 : y1 = .agg (evCells 2 (w32 (c.r B + off)) v B (stV v (c.r A)) 0) := by
      refine Ev.rel_fun 4 _ _ _ (by cases v <;> rfl) hxs.2.1 (ν := μ) ⟨(evCells 2 (w32 (c.r B + off)) v B (stV v (c.r A)) 0).toList, by simp, rfl, congrArg (Value.int .u32) ?_, rfl, rfl, ?_, rfl, trivial⟩
      · show w32 (c.r B + off) = IntKind.u32.wrap ((stVal c u v ci op im off cond n x).i (100 + B) + IntKind.u32.wrap off)
        rw [st_reg B hB, IntKind.wrap_u32, IntKind.wrap_u32]
        unfold w32
        omega
      · cases v with
        | false =>
          show Value.int .u32 (c.r A) = Value.int .u32 ((stVal c u false ci op im off cond n x).i (100 + A))
          rw [st_reg A hA]
        | true =>
          show Value.int .u32 (c.r A % 256) = Value.int .u32 (bits BinOp.and .u32 ((stVal c u true ci op im off cond n x).i (100 + A)) 255)
          rw [st_reg A hA, and255 _ (hr A).1 (hr A).2]
    rw [h0, h1]
end
end Go.Proofs.YtlgdlaohfkgkfaaGreat
