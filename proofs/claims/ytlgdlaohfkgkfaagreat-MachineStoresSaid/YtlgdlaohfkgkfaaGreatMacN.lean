/-
  A machine in memory: its steps on a store, and on a load.
-/
import Derived.Test.YtlgdlaohfkgkfaaGreatMacM
namespace Go.Proofs.YtlgdlaohfkgkfaaGreat
open Go.ChangeShapes Go.WideShapes Go.ChangeAt Go.RowKit
set_option linter.unusedVariables false
set_option linter.unusedSimpArgs false
section
variable {w : World} {B : Nat} {p : Mp} {m : Mc}
set_option maxHeartbeats 8000000 in
set_option maxRecDepth 100000 in
theorem step_st (h : MAt w B p m) (hc : ClAt w B p) (hB : B ≤ w.heap.size) (hpc : m.cpu.pc = 0) (q : Nat) (v : Bool) (x wd : Int) (hx : wdF m.f 0 = wd) (hST : ∀ V, Calls Tryz.prog 68 #[.agg (cpuCells m.cpu), .int .u32 wd] V fun e w' => e = .returned (.tuple #[.agg (cpuCells (nextC m.cpu)), .agg (evCells 2 (q : Int) v 3 x 0)]) ∧ Below V.heap.size V w') (hxb : 0 ≤ x ∧ x < 4294967296) (hq : q + 4 ≤ m.n ∨ v = true ∧ q < m.n) (h4 : v = true ∨ q % 4 = 0) :
    Calls Tryz.prog 40 #[.pointer (some ⟨p.b, 0, none⟩)] w fun e w' => e = .returned (.tuple #[]) ∧ MAt w' B p { m with cpu := nextC m.cpu, f := savF m.f q v x } ∧ ClAt w' B p ∧ Chg p w w' := by
  have hn := h.n1
  have hn0 := h.n0
  have k21 := h.pc
  have k22 := h.mem
  rw [hpc] at k21
  go_enter Tryz.func40, Tryz.ntmps40
  go_wp2_with fail
  go_quiet (fail)
  go_wp2_with fail
  have hm0 := (h.next (mdrewN w nq)).next (mbelow1 (w.drewN nq) (.cells (evCells 0 0 false 0 0 0) 119))
  have hc0 := (hc.next (mdrewN w nq)).next (mbelow1 (w.drewN nq) (.cells (evCells 0 0 false 0 0 0) 119))
  have he0 : ((w.drewN nq).alloc (.cells (evCells 0 0 false 0 0 0) 119)).heap[w.heap.size]? = some (.cells (evCells 0 0 false 0 0 0) 119) := heap_alloc_last (w.drewN nq) (.cells (evCells 0 0 false 0 0 0) 119)
  have hg0 : Chg p w ((w.drewN nq).alloc (.cells (evCells 0 0 false 0 0 0) 119)) := Chg.ofBelow ((mdrewN w nq).trans (mbelow1 (w.drewN nq) _))
  have hlo : w.heap.size ≤ w.heap.size := Nat.le_refl _
  change Code.wp _ _ _ _ ((w.drewN nq).alloc (.cells (evCells 0 0 false 0 0 0) 119))
  generalize (w.drewN nq).alloc (.cells (evCells 0 0 false 0 0 0) 119) = W1 at *
  have neb : w.heap.size ≠ p.b := by have := h.lb; omega
  have neg : w.heap.size ≠ p.g := by have := h.lg; omega
  have HM := Lib.hid hm0.drew
  have HC := Lib.hid (hc0.next (Below.refl _ _).drew)
  have HE : Hid (W1.drew.heap[w.heap.size]? = some (.cells (evCells 0 0 false 0 0 0) 119 (0, 0))) := Lib.hid he0
  have HG : Hid (Chg p w W1.drew) := Lib.hid hg0.drew
  have HN := Lib.hid (And.intro neb neg)
  have HLO := Lib.hid hlo
  clear hm0 hc0 he0 hg0 hlo k21 k22 neb neg
  have HSz := Lib.hid (mcpu_len m.cpu)
  have b0 : Below W1.drew.heap.size W1.drew W1.drew := Below.refl _ _
  refine wp_region_inv' 21 rfl (fun L a' w' => ∃ y0 y1 y2 y3 y4 y5 y6 y7 y8 y9 y10 y11 y12 y13 y14 y15 y16 y17 y18 : Value, a' = { tmps := #[.pointer (some ⟨p.b, 0, none⟩), undef, .pointer (some ⟨w.heap.size, 0, none⟩), undef, .pointer (some ⟨p.b, 0, none⟩), .pointer (some ⟨p.b, 0, none⟩), .pointer (some ⟨p.b, 0, none⟩), .pointer (some ⟨p.b, 21, none⟩), .int .u32 0, .pointer (some ⟨p.b, 0, none⟩), .pointer (some ⟨p.b, 0, none⟩), .pointer (some ⟨p.b, 22, none⟩), .slice (some ⟨p.g, 0, none⟩) m.n m.n, .int .i64 (m.n : Int), .int .i64 ((m.n : Int) / 4), .int .u32 ((m.n : Int) / 4), .bool (decide ((m.n : Int) / 4 ≤ 0)), undef, undef, y14, y0, y1, y2, y3, y4, y5, y6, y7, y8, y9, y10, y11, y12, y13, y15, y16, y17, y18, undef, undef, undef, undef, undef, undef, undef, undef, undef, undef, undef, undef, undef, undef, undef, undef, undef, undef, undef, undef, undef, undef, undef, undef, undef, undef, undef, undef, undef, undef, undef, undef, undef, undef, undef, undef, undef, undef, undef], defers := [] } ∧ (L 0 = true → y0 = .pointer (some ⟨p.b, 0, none⟩)) ∧ (L 1 = true → y1 = .pointer (some ⟨p.b, 0, none⟩)) ∧ (L 2 = true → y2 = .pointer (some ⟨p.b, 0, none⟩)) ∧ (L 3 = true → y3 = .pointer (some ⟨p.b, 0, none⟩)) ∧ (L 4 = true → y4 = .agg (cpuCells m.cpu)) ∧ (L 5 = true → y5 = .pointer (some ⟨p.b, 0, none⟩)) ∧ (L 6 = true → y6 = .pointer (some ⟨p.b, 0, none⟩)) ∧ (L 7 = true → y7 = .pointer (some ⟨p.b, 0, none⟩)) ∧ (L 8 = true → y8 = .pointer (some ⟨p.b, 0, none⟩)) ∧ (L 9 = true → y9 = .pointer (some ⟨p.b, 21, none⟩)) ∧ (L 10 = true → y10 = .int .u32 0) ∧ (L 11 = true → y11 = .int .u32 0) ∧ (L 12 = true → y12 = .int .u32 wd) ∧ (L 13 = true → y13 = .tuple #[.agg (cpuCells (nextC m.cpu)), .agg (evCells 2 (q : Int) v 3 x 0)]) ∧ (L 14 = true → y14 = .tuple #[.agg (cpuCells (nextC m.cpu)), .agg (evCells 2 (q : Int) v 3 x 0)]) ∧ (L 15 = true → y15 = .agg (cpuCells (nextC m.cpu))) ∧ (L 16 = true → y16 = .agg (evCells 2 (q : Int) v 3 x 0)) ∧ (L 17 = true → y17 = .pointer (some ⟨p.b, 0, none⟩)) ∧ (L 18 = true → y18 = .pointer (some ⟨p.b, 0, none⟩)) ∧ (L 19 = false → Below W1.drew.heap.size W1.drew w') ∧ (L 19 = true → L 20 = false → Behind w B p m (nextC m.cpu) w.heap.size (evCells 0 0 false 0 0 0) w') ∧ (L 20 = true → Behind w B p m (nextC m.cpu) w.heap.size (evCells 2 (q : Int) v 3 x 0) w')) (by kernel_rfl) (by kernel_rfl) ?h0 ?step ?fin
  case h0 => exact ⟨undef, undef, undef, undef, undef, undef, undef, undef, undef, undef, undef, undef, undef, undef, undef, undef, undef, undef, undef, rfl, (fun e => by simp at e), (fun e => by simp at e), (fun e => by simp at e), (fun e => by simp at e), (fun e => by simp at e), (fun e => by simp at e), (fun e => by simp at e), (fun e => by simp at e), (fun e => by simp at e), (fun e => by simp at e), (fun e => by simp at e), (fun e => by simp at e), (fun e => by simp at e), (fun e => by simp at e), (fun e => by simp at e), (fun e => by simp at e), (fun e => by simp at e), (fun e => by simp at e), (fun e => by simp at e), fun _ => b0, fun e => by simp at e, fun e => by simp at e⟩
  case step =>
    rintro i hi L a' w' hLi hcl hdp ⟨y0, y1, y2, y3, y4, y5, y6, y7, y8, y9, y10, y11, y12, y13, y14, y15, y16, y17, y18, rfl, e0, e1, e2, e3, e4, e5, e6, e7, e8, e9, e10, e11, e12, e13, e14, e15, e16, e17, e18, hw1, hw2, hw3⟩
    have hi : i = 0 ∨ i = 1 ∨ i = 2 ∨ i = 3 ∨ i = 4 ∨ i = 5 ∨ i = 6 ∨ i = 7 ∨ i = 8 ∨ i = 9 ∨ i = 10 ∨ i = 11 ∨ i = 12 ∨ i = 13 ∨ i = 14 ∨ i = 15 ∨ i = 16 ∨ i = 17 ∨ i = 18 ∨ i = 19 ∨ i = 20 := by omega
    rcases hi with rfl | rfl | rfl | rfl | rfl | rfl | rfl | rfl | rfl | rfl | rfl | rfl | rfl | rfl | rfl | rfl | rfl | rfl | rfl | rfl | rfl
    · have l20 : L 20 = false := by
        cases h : L 20
        · rfl
        · exact absurd (hcl 20 0 h (by kernel_rfl)) (by rw [hLi]; decide)
      have l19 : L 19 = false := by
        cases h : L 19
        · rfl
        · exact absurd (hcl 19 0 h (by kernel_rfl)) (by rw [hLi]; decide)
      have HBW := Lib.hid (hw1 l19)
      clear hcl hw1 hw2 hw3
      have E1 := Lib.hid e1; have E2 := Lib.hid e2; have E3 := Lib.hid e3; have E4 := Lib.hid e4; have E5 := Lib.hid e5; have E6 := Lib.hid e6; have E7 := Lib.hid e7; have E8 := Lib.hid e8; have E9 := Lib.hid e9; have E10 := Lib.hid e10; have E11 := Lib.hid e11; have E12 := Lib.hid e12; have E13 := Lib.hid e13; have E14 := Lib.hid e14; have E15 := Lib.hid e15; have E16 := Lib.hid e16; have E17 := Lib.hid e17; have E18 := Lib.hid e18
      clear hdp e0 e1 e2 e3 e4 e5 e6 e7 e8 e9 e10 e11 e12 e13 e14 e15 e16 e17 e18
      refine wpOp_step rfl (fun K hK => ?_)
      go_simp
      exact hK _ _ ⟨_, _, _, _, _, _, _, _, _, _, _, _, _, _, _, _, _, _, _, rfl, (fun _ => rfl), (fun h => E1.out (by simpa [upOn] using h)), (fun h => E2.out (by simpa [upOn] using h)), (fun h => E3.out (by simpa [upOn] using h)), (fun h => E4.out (by simpa [upOn] using h)), (fun h => E5.out (by simpa [upOn] using h)), (fun h => E6.out (by simpa [upOn] using h)), (fun h => E7.out (by simpa [upOn] using h)), (fun h => E8.out (by simpa [upOn] using h)), (fun h => E9.out (by simpa [upOn] using h)), (fun h => E10.out (by simpa [upOn] using h)), (fun h => E11.out (by simpa [upOn] using h)), (fun h => E12.out (by simpa [upOn] using h)), (fun h => E13.out (by simpa [upOn] using h)), (fun h => E14.out (by simpa [upOn] using h)), (fun h => E15.out (by simpa [upOn] using h)), (fun h => E16.out (by simpa [upOn] using h)), (fun h => E17.out (by simpa [upOn] using h)), (fun h => E18.out (by simpa [upOn] using h)), (fun _ => HBW.out), (fun h => by simp [upOn, l19] at h), (fun h => by simp [upOn, l20] at h)⟩
    · have l20 : L 20 = false := by
        cases h : L 20
        · rfl
        · exact absurd (hcl 20 1 h (by kernel_rfl)) (by rw [hLi]; decide)
      have l19 : L 19 = false := by
        cases h : L 19
        · rfl
        · exact absurd (hcl 19 1 h (by kernel_rfl)) (by rw [hLi]; decide)
      have HBW := Lib.hid (hw1 l19)
      clear hcl hw1 hw2 hw3
      have E0 := Lib.hid e0; have E2 := Lib.hid e2; have E3 := Lib.hid e3; have E4 := Lib.hid e4; have E5 := Lib.hid e5; have E6 := Lib.hid e6; have E7 := Lib.hid e7; have E8 := Lib.hid e8; have E9 := Lib.hid e9; have E10 := Lib.hid e10; have E11 := Lib.hid e11; have E12 := Lib.hid e12; have E13 := Lib.hid e13; have E14 := Lib.hid e14; have E15 := Lib.hid e15; have E16 := Lib.hid e16; have E17 := Lib.hid e17; have E18 := Lib.hid e18
      clear hdp e0 e1 e2 e3 e4 e5 e6 e7 e8 e9 e10 e11 e12 e13 e14 e15 e16 e17 e18
      refine wpOp_step rfl (fun K hK => ?_)
      go_simp
      exact hK _ _ ⟨_, _, _, _, _, _, _, _, _, _, _, _, _, _, _, _, _, _, _, rfl, (fun h => E0.out (by simpa [upOn] using h)), (fun _ => rfl), (fun h => E2.out (by simpa [upOn] using h)), (fun h => E3.out (by simpa [upOn] using h)), (fun h => E4.out (by simpa [upOn] using h)), (fun h => E5.out (by simpa [upOn] using h)), (fun h => E6.out (by simpa [upOn] using h)), (fun h => E7.out (by simpa [upOn] using h)), (fun h => E8.out (by simpa [upOn] using h)), (fun h => E9.out (by simpa [upOn] using h)), (fun h => E10.out (by simpa [upOn] using h)), (fun h => E11.out (by simpa [upOn] using h)), (fun h => E12.out (by simpa [upOn] using h)), (fun h => E13.out (by simpa [upOn] using h)), (fun h => E14.out (by simpa [upOn] using h)), (fun h => E15.out (by simpa [upOn] using h)), (fun h => E16.out (by simpa [upOn] using h)), (fun h => E17.out (by simpa [upOn] using h)), (fun h => E18.out (by simpa [upOn] using h)), (fun _ => HBW.out), (fun h => by simp [upOn, l19] at h), (fun h => by simp [upOn, l20] at h)⟩
    · have l20 : L 20 = false := by
        cases h : L 20
        · rfl
        · exact absurd (hcl 20 2 h (by kernel_rfl)) (by rw [hLi]; decide)
      have l19 : L 19 = false := by
        cases h : L 19
        · rfl
        · exact absurd (hcl 19 2 h (by kernel_rfl)) (by rw [hLi]; decide)
      have HBW := Lib.hid (hw1 l19)
      clear hcl hw1 hw2 hw3
      obtain rfl := e1 (hdp 1 (by kernel_rfl))
      have E0 := Lib.hid e0; have E3 := Lib.hid e3; have E4 := Lib.hid e4; have E5 := Lib.hid e5; have E6 := Lib.hid e6; have E7 := Lib.hid e7; have E8 := Lib.hid e8; have E9 := Lib.hid e9; have E10 := Lib.hid e10; have E11 := Lib.hid e11; have E12 := Lib.hid e12; have E13 := Lib.hid e13; have E14 := Lib.hid e14; have E15 := Lib.hid e15; have E16 := Lib.hid e16; have E17 := Lib.hid e17; have E18 := Lib.hid e18
      clear hdp e0 e1 e2 e3 e4 e5 e6 e7 e8 e9 e10 e11 e12 e13 e14 e15 e16 e17 e18
      refine wpOp_step rfl (fun K hK => ?_)
      go_simp
      exact hK _ _ ⟨_, _, _, _, _, _, _, _, _, _, _, _, _, _, _, _, _, _, _, rfl, (fun h => E0.out (by simpa [upOn] using h)), (fun _ => rfl), (fun _ => rfl), (fun h => E3.out (by simpa [upOn] using h)), (fun h => E4.out (by simpa [upOn] using h)), (fun h => E5.out (by simpa [upOn] using h)), (fun h => E6.out (by simpa [upOn] using h)), (fun h => E7.out (by simpa [upOn] using h)), (fun h => E8.out (by simpa [upOn] using h)), (fun h => E9.out (by simpa [upOn] using h)), (fun h => E10.out (by simpa [upOn] using h)), (fun h => E11.out (by simpa [upOn] using h)), (fun h => E12.out (by simpa [upOn] using h)), (fun h => E13.out (by simpa [upOn] using h)), (fun h => E14.out (by simpa [upOn] using h)), (fun h => E15.out (by simpa [upOn] using h)), (fun h => E16.out (by simpa [upOn] using h)), (fun h => E17.out (by simpa [upOn] using h)), (fun h => E18.out (by simpa [upOn] using h)), (fun _ => HBW.out), (fun h => by simp [upOn, l19] at h), (fun h => by simp [upOn, l20] at h)⟩
    · have l20 : L 20 = false := by
        cases h : L 20
        · rfl
        · exact absurd (hcl 20 3 h (by kernel_rfl)) (by rw [hLi]; decide)
      have l19 : L 19 = false := by
        cases h : L 19
        · rfl
        · exact absurd (hcl 19 3 h (by kernel_rfl)) (by rw [hLi]; decide)
      have HBW := Lib.hid (hw1 l19)
      clear hcl hw1 hw2 hw3
      obtain rfl := e2 (hdp 2 (by kernel_rfl))
      have E0 := Lib.hid e0; have E1 := Lib.hid e1; have E4 := Lib.hid e4; have E5 := Lib.hid e5; have E6 := Lib.hid e6; have E7 := Lib.hid e7; have E8 := Lib.hid e8; have E9 := Lib.hid e9; have E10 := Lib.hid e10; have E11 := Lib.hid e11; have E12 := Lib.hid e12; have E13 := Lib.hid e13; have E14 := Lib.hid e14; have E15 := Lib.hid e15; have E16 := Lib.hid e16; have E17 := Lib.hid e17; have E18 := Lib.hid e18
      clear hdp e0 e1 e2 e3 e4 e5 e6 e7 e8 e9 e10 e11 e12 e13 e14 e15 e16 e17 e18
      refine wpOp_step rfl (fun K hK => ?_)
      go_simp
      exact hK _ _ ⟨_, _, _, _, _, _, _, _, _, _, _, _, _, _, _, _, _, _, _, rfl, (fun h => E0.out (by simpa [upOn] using h)), (fun h => E1.out (by simpa [upOn] using h)), (fun _ => rfl), (fun _ => rfl), (fun h => E4.out (by simpa [upOn] using h)), (fun h => E5.out (by simpa [upOn] using h)), (fun h => E6.out (by simpa [upOn] using h)), (fun h => E7.out (by simpa [upOn] using h)), (fun h => E8.out (by simpa [upOn] using h)), (fun h => E9.out (by simpa [upOn] using h)), (fun h => E10.out (by simpa [upOn] using h)), (fun h => E11.out (by simpa [upOn] using h)), (fun h => E12.out (by simpa [upOn] using h)), (fun h => E13.out (by simpa [upOn] using h)), (fun h => E14.out (by simpa [upOn] using h)), (fun h => E15.out (by simpa [upOn] using h)), (fun h => E16.out (by simpa [upOn] using h)), (fun h => E17.out (by simpa [upOn] using h)), (fun h => E18.out (by simpa [upOn] using h)), (fun _ => HBW.out), (fun h => by simp [upOn, l19] at h), (fun h => by simp [upOn, l20] at h)⟩
    · have l20 : L 20 = false := by
        cases h : L 20
        · rfl
        · exact absurd (hcl 20 4 h (by kernel_rfl)) (by rw [hLi]; decide)
      have l19 : L 19 = false := by
        cases h : L 19
        · rfl
        · exact absurd (hcl 19 4 h (by kernel_rfl)) (by rw [hLi]; decide)
      have HBW := Lib.hid (hw1 l19)
      clear hcl hw1 hw2 hw3
      obtain rfl := e3 (hdp 3 (by kernel_rfl))
      have E0 := Lib.hid e0; have E1 := Lib.hid e1; have E2 := Lib.hid e2; have E5 := Lib.hid e5; have E6 := Lib.hid e6; have E7 := Lib.hid e7; have E8 := Lib.hid e8; have E9 := Lib.hid e9; have E10 := Lib.hid e10; have E11 := Lib.hid e11; have E12 := Lib.hid e12; have E13 := Lib.hid e13; have E14 := Lib.hid e14; have E15 := Lib.hid e15; have E16 := Lib.hid e16; have E17 := Lib.hid e17; have E18 := Lib.hid e18
      clear hdp e0 e1 e2 e3 e4 e5 e6 e7 e8 e9 e10 e11 e12 e13 e14 e15 e16 e17 e18
      refine wpOp_step rfl (fun K hK => ?_)
      rw [if_pos (by rfl)]
      refine wp_load_mid 53 _ rfl p.b 0 rfl (cpuCells m.cpu).toList _ (HM.out.next HBW.out).cpu Tryz.underlying53 rfl HSz.out ?_
      rw [Array.toArray_toList]
      exact hK _ _ ⟨_, _, _, _, _, _, _, _, _, _, _, _, _, _, _, _, _, _, _, rfl, (fun h => E0.out (by simpa [upOn] using h)), (fun h => E1.out (by simpa [upOn] using h)), (fun h => E2.out (by simpa [upOn] using h)), (fun _ => rfl), (fun _ => rfl), (fun h => E5.out (by simpa [upOn] using h)), (fun h => E6.out (by simpa [upOn] using h)), (fun h => E7.out (by simpa [upOn] using h)), (fun h => E8.out (by simpa [upOn] using h)), (fun h => E9.out (by simpa [upOn] using h)), (fun h => E10.out (by simpa [upOn] using h)), (fun h => E11.out (by simpa [upOn] using h)), (fun h => E12.out (by simpa [upOn] using h)), (fun h => E13.out (by simpa [upOn] using h)), (fun h => E14.out (by simpa [upOn] using h)), (fun h => E15.out (by simpa [upOn] using h)), (fun h => E16.out (by simpa [upOn] using h)), (fun h => E17.out (by simpa [upOn] using h)), (fun h => E18.out (by simpa [upOn] using h)), (fun _ => HBW.out), (fun h => by simp [upOn, l19] at h), (fun h => by simp [upOn, l20] at h)⟩
    · have l20 : L 20 = false := by
        cases h : L 20
        · rfl
        · exact absurd (hcl 20 5 h (by kernel_rfl)) (by rw [hLi]; decide)
      have l19 : L 19 = false := by
        cases h : L 19
        · rfl
        · exact absurd (hcl 19 5 h (by kernel_rfl)) (by rw [hLi]; decide)
      have HBW := Lib.hid (hw1 l19)
      clear hcl hw1 hw2 hw3
      have E0 := Lib.hid e0; have E1 := Lib.hid e1; have E2 := Lib.hid e2; have E3 := Lib.hid e3; have E4 := Lib.hid e4; have E6 := Lib.hid e6; have E7 := Lib.hid e7; have E8 := Lib.hid e8; have E9 := Lib.hid e9; have E10 := Lib.hid e10; have E11 := Lib.hid e11; have E12 := Lib.hid e12; have E13 := Lib.hid e13; have E14 := Lib.hid e14; have E15 := Lib.hid e15; have E16 := Lib.hid e16; have E17 := Lib.hid e17; have E18 := Lib.hid e18
      clear hdp e0 e1 e2 e3 e4 e5 e6 e7 e8 e9 e10 e11 e12 e13 e14 e15 e16 e17 e18
      refine wpOp_step rfl (fun K hK => ?_)
      go_simp
      exact hK _ _ ⟨_, _, _, _, _, _, _, _, _, _, _, _, _, _, _, _, _, _, _, rfl, (fun h => E0.out (by simpa [upOn] using h)), (fun h => E1.out (by simpa [upOn] using h)), (fun h => E2.out (by simpa [upOn] using h)), (fun h => E3.out (by simpa [upOn] using h)), (fun h => E4.out (by simpa [upOn] using h)), (fun _ => rfl), (fun h => E6.out (by simpa [upOn] using h)), (fun h => E7.out (by simpa [upOn] using h)), (fun h => E8.out (by simpa [upOn] using h)), (fun h => E9.out (by simpa [upOn] using h)), (fun h => E10.out (by simpa [upOn] using h)), (fun h => E11.out (by simpa [upOn] using h)), (fun h => E12.out (by simpa [upOn] using h)), (fun h => E13.out (by simpa [upOn] using h)), (fun h => E14.out (by simpa [upOn] using h)), (fun h => E15.out (by simpa [upOn] using h)), (fun h => E16.out (by simpa [upOn] using h)), (fun h => E17.out (by simpa [upOn] using h)), (fun h => E18.out (by simpa [upOn] using h)), (fun _ => HBW.out), (fun h => by simp [upOn, l19] at h), (fun h => by simp [upOn, l20] at h)⟩
    · have l20 : L 20 = false := by
        cases h : L 20
        · rfl
        · exact absurd (hcl 20 6 h (by kernel_rfl)) (by rw [hLi]; decide)
      have l19 : L 19 = false := by
        cases h : L 19
        · rfl
        · exact absurd (hcl 19 6 h (by kernel_rfl)) (by rw [hLi]; decide)
      have HBW := Lib.hid (hw1 l19)
      clear hcl hw1 hw2 hw3
      have E0 := Lib.hid e0; have E1 := Lib.hid e1; have E2 := Lib.hid e2; have E3 := Lib.hid e3; have E4 := Lib.hid e4; have E5 := Lib.hid e5; have E7 := Lib.hid e7; have E8 := Lib.hid e8; have E9 := Lib.hid e9; have E10 := Lib.hid e10; have E11 := Lib.hid e11; have E12 := Lib.hid e12; have E13 := Lib.hid e13; have E14 := Lib.hid e14; have E15 := Lib.hid e15; have E16 := Lib.hid e16; have E17 := Lib.hid e17; have E18 := Lib.hid e18
      clear hdp e0 e1 e2 e3 e4 e5 e6 e7 e8 e9 e10 e11 e12 e13 e14 e15 e16 e17 e18
      refine wpOp_step rfl (fun K hK => ?_)
      go_simp
      exact hK _ _ ⟨_, _, _, _, _, _, _, _, _, _, _, _, _, _, _, _, _, _, _, rfl, (fun h => E0.out (by simpa [upOn] using h)), (fun h => E1.out (by simpa [upOn] using h)), (fun h => E2.out (by simpa [upOn] using h)), (fun h => E3.out (by simpa [upOn] using h)), (fun h => E4.out (by simpa [upOn] using h)), (fun h => E5.out (by simpa [upOn] using h)), (fun _ => rfl), (fun h => E7.out (by simpa [upOn] using h)), (fun h => E8.out (by simpa [upOn] using h)), (fun h => E9.out (by simpa [upOn] using h)), (fun h => E10.out (by simpa [upOn] using h)), (fun h => E11.out (by simpa [upOn] using h)), (fun h => E12.out (by simpa [upOn] using h)), (fun h => E13.out (by simpa [upOn] using h)), (fun h => E14.out (by simpa [upOn] using h)), (fun h => E15.out (by simpa [upOn] using h)), (fun h => E16.out (by simpa [upOn] using h)), (fun h => E17.out (by simpa [upOn] using h)), (fun h => E18.out (by simpa [upOn] using h)), (fun _ => HBW.out), (fun h => by simp [upOn, l19] at h), (fun h => by simp [upOn, l20] at h)⟩
    · have l20 : L 20 = false := by
        cases h : L 20
        · rfl
        · exact absurd (hcl 20 7 h (by kernel_rfl)) (by rw [hLi]; decide)
      have l19 : L 19 = false := by
        cases h : L 19
        · rfl
        · exact absurd (hcl 19 7 h (by kernel_rfl)) (by rw [hLi]; decide)
      have HBW := Lib.hid (hw1 l19)
      clear hcl hw1 hw2 hw3
      obtain rfl := e6 (hdp 6 (by kernel_rfl))
      have E0 := Lib.hid e0; have E1 := Lib.hid e1; have E2 := Lib.hid e2; have E3 := Lib.hid e3; have E4 := Lib.hid e4; have E5 := Lib.hid e5; have E8 := Lib.hid e8; have E9 := Lib.hid e9; have E10 := Lib.hid e10; have E11 := Lib.hid e11; have E12 := Lib.hid e12; have E13 := Lib.hid e13; have E14 := Lib.hid e14; have E15 := Lib.hid e15; have E16 := Lib.hid e16; have E17 := Lib.hid e17; have E18 := Lib.hid e18
      clear hdp e0 e1 e2 e3 e4 e5 e6 e7 e8 e9 e10 e11 e12 e13 e14 e15 e16 e17 e18
      refine wpOp_step rfl (fun K hK => ?_)
      go_simp
      exact hK _ _ ⟨_, _, _, _, _, _, _, _, _, _, _, _, _, _, _, _, _, _, _, rfl, (fun h => E0.out (by simpa [upOn] using h)), (fun h => E1.out (by simpa [upOn] using h)), (fun h => E2.out (by simpa [upOn] using h)), (fun h => E3.out (by simpa [upOn] using h)), (fun h => E4.out (by simpa [upOn] using h)), (fun h => E5.out (by simpa [upOn] using h)), (fun _ => rfl), (fun _ => rfl), (fun h => E8.out (by simpa [upOn] using h)), (fun h => E9.out (by simpa [upOn] using h)), (fun h => E10.out (by simpa [upOn] using h)), (fun h => E11.out (by simpa [upOn] using h)), (fun h => E12.out (by simpa [upOn] using h)), (fun h => E13.out (by simpa [upOn] using h)), (fun h => E14.out (by simpa [upOn] using h)), (fun h => E15.out (by simpa [upOn] using h)), (fun h => E16.out (by simpa [upOn] using h)), (fun h => E17.out (by simpa [upOn] using h)), (fun h => E18.out (by simpa [upOn] using h)), (fun _ => HBW.out), (fun h => by simp [upOn, l19] at h), (fun h => by simp [upOn, l20] at h)⟩
    · have l20 : L 20 = false := by
        cases h : L 20
        · rfl
        · exact absurd (hcl 20 8 h (by kernel_rfl)) (by rw [hLi]; decide)
      have l19 : L 19 = false := by
        cases h : L 19
        · rfl
        · exact absurd (hcl 19 8 h (by kernel_rfl)) (by rw [hLi]; decide)
      have HBW := Lib.hid (hw1 l19)
      clear hcl hw1 hw2 hw3
      obtain rfl := e7 (hdp 7 (by kernel_rfl))
      have E0 := Lib.hid e0; have E1 := Lib.hid e1; have E2 := Lib.hid e2; have E3 := Lib.hid e3; have E4 := Lib.hid e4; have E5 := Lib.hid e5; have E6 := Lib.hid e6; have E9 := Lib.hid e9; have E10 := Lib.hid e10; have E11 := Lib.hid e11; have E12 := Lib.hid e12; have E13 := Lib.hid e13; have E14 := Lib.hid e14; have E15 := Lib.hid e15; have E16 := Lib.hid e16; have E17 := Lib.hid e17; have E18 := Lib.hid e18
      clear hdp e0 e1 e2 e3 e4 e5 e6 e7 e8 e9 e10 e11 e12 e13 e14 e15 e16 e17 e18
      refine wpOp_step rfl (fun K hK => ?_)
      go_simp
      exact hK _ _ ⟨_, _, _, _, _, _, _, _, _, _, _, _, _, _, _, _, _, _, _, rfl, (fun h => E0.out (by simpa [upOn] using h)), (fun h => E1.out (by simpa [upOn] using h)), (fun h => E2.out (by simpa [upOn] using h)), (fun h => E3.out (by simpa [upOn] using h)), (fun h => E4.out (by simpa [upOn] using h)), (fun h => E5.out (by simpa [upOn] using h)), (fun h => E6.out (by simpa [upOn] using h)), (fun _ => rfl), (fun _ => rfl), (fun h => E9.out (by simpa [upOn] using h)), (fun h => E10.out (by simpa [upOn] using h)), (fun h => E11.out (by simpa [upOn] using h)), (fun h => E12.out (by simpa [upOn] using h)), (fun h => E13.out (by simpa [upOn] using h)), (fun h => E14.out (by simpa [upOn] using h)), (fun h => E15.out (by simpa [upOn] using h)), (fun h => E16.out (by simpa [upOn] using h)), (fun h => E17.out (by simpa [upOn] using h)), (fun h => E18.out (by simpa [upOn] using h)), (fun _ => HBW.out), (fun h => by simp [upOn, l19] at h), (fun h => by simp [upOn, l20] at h)⟩
    · have l20 : L 20 = false := by
        cases h : L 20
        · rfl
        · exact absurd (hcl 20 9 h (by kernel_rfl)) (by rw [hLi]; decide)
      have l19 : L 19 = false := by
        cases h : L 19
        · rfl
        · exact absurd (hcl 19 9 h (by kernel_rfl)) (by rw [hLi]; decide)
      have HBW := Lib.hid (hw1 l19)
      clear hcl hw1 hw2 hw3
      obtain rfl := e8 (hdp 8 (by kernel_rfl))
      have E0 := Lib.hid e0; have E1 := Lib.hid e1; have E2 := Lib.hid e2; have E3 := Lib.hid e3; have E4 := Lib.hid e4; have E5 := Lib.hid e5; have E6 := Lib.hid e6; have E7 := Lib.hid e7; have E10 := Lib.hid e10; have E11 := Lib.hid e11; have E12 := Lib.hid e12; have E13 := Lib.hid e13; have E14 := Lib.hid e14; have E15 := Lib.hid e15; have E16 := Lib.hid e16; have E17 := Lib.hid e17; have E18 := Lib.hid e18
      clear hdp e0 e1 e2 e3 e4 e5 e6 e7 e8 e9 e10 e11 e12 e13 e14 e15 e16 e17 e18
      refine wpOp_step rfl (fun K hK => ?_)
      go_simp
      exact hK _ _ ⟨_, _, _, _, _, _, _, _, _, _, _, _, _, _, _, _, _, _, _, rfl, (fun h => E0.out (by simpa [upOn] using h)), (fun h => E1.out (by simpa [upOn] using h)), (fun h => E2.out (by simpa [upOn] using h)), (fun h => E3.out (by simpa [upOn] using h)), (fun h => E4.out (by simpa [upOn] using h)), (fun h => E5.out (by simpa [upOn] using h)), (fun h => E6.out (by simpa [upOn] using h)), (fun h => E7.out (by simpa [upOn] using h)), (fun _ => rfl), (fun _ => rfl), (fun h => E10.out (by simpa [upOn] using h)), (fun h => E11.out (by simpa [upOn] using h)), (fun h => E12.out (by simpa [upOn] using h)), (fun h => E13.out (by simpa [upOn] using h)), (fun h => E14.out (by simpa [upOn] using h)), (fun h => E15.out (by simpa [upOn] using h)), (fun h => E16.out (by simpa [upOn] using h)), (fun h => E17.out (by simpa [upOn] using h)), (fun h => E18.out (by simpa [upOn] using h)), (fun _ => HBW.out), (fun h => by simp [upOn, l19] at h), (fun h => by simp [upOn, l20] at h)⟩
    · have l20 : L 20 = false := by
        cases h : L 20
        · rfl
        · exact absurd (hcl 20 10 h (by kernel_rfl)) (by rw [hLi]; decide)
      have l19 : L 19 = false := by
        cases h : L 19
        · rfl
        · exact absurd (hcl 19 10 h (by kernel_rfl)) (by rw [hLi]; decide)
      have HBW := Lib.hid (hw1 l19)
      clear hcl hw1 hw2 hw3
      obtain rfl := e9 (hdp 9 (by kernel_rfl))
      have E0 := Lib.hid e0; have E1 := Lib.hid e1; have E2 := Lib.hid e2; have E3 := Lib.hid e3; have E4 := Lib.hid e4; have E5 := Lib.hid e5; have E6 := Lib.hid e6; have E7 := Lib.hid e7; have E8 := Lib.hid e8; have E11 := Lib.hid e11; have E12 := Lib.hid e12; have E13 := Lib.hid e13; have E14 := Lib.hid e14; have E15 := Lib.hid e15; have E16 := Lib.hid e16; have E17 := Lib.hid e17; have E18 := Lib.hid e18
      clear hdp e0 e1 e2 e3 e4 e5 e6 e7 e8 e9 e10 e11 e12 e13 e14 e15 e16 e17 e18
      refine wpOp_step rfl (fun K hK => ?_)
      have k21 : w'.cell? ⟨p.b, 21, none⟩ = some (.int .u32 0) := by rw [← hpc]; exact (HM.out.next HBW.out).pc
      go_simp
      exact hK _ _ ⟨_, _, _, _, _, _, _, _, _, _, _, _, _, _, _, _, _, _, _, rfl, (fun h => E0.out (by simpa [upOn] using h)), (fun h => E1.out (by simpa [upOn] using h)), (fun h => E2.out (by simpa [upOn] using h)), (fun h => E3.out (by simpa [upOn] using h)), (fun h => E4.out (by simpa [upOn] using h)), (fun h => E5.out (by simpa [upOn] using h)), (fun h => E6.out (by simpa [upOn] using h)), (fun h => E7.out (by simpa [upOn] using h)), (fun h => E8.out (by simpa [upOn] using h)), (fun _ => rfl), (fun _ => rfl), (fun h => E11.out (by simpa [upOn] using h)), (fun h => E12.out (by simpa [upOn] using h)), (fun h => E13.out (by simpa [upOn] using h)), (fun h => E14.out (by simpa [upOn] using h)), (fun h => E15.out (by simpa [upOn] using h)), (fun h => E16.out (by simpa [upOn] using h)), (fun h => E17.out (by simpa [upOn] using h)), (fun h => E18.out (by simpa [upOn] using h)), (fun _ => HBW.out), (fun h => by simp [upOn, l19] at h), (fun h => by simp [upOn, l20] at h)⟩
    · have l20 : L 20 = false := by
        cases h : L 20
        · rfl
        · exact absurd (hcl 20 11 h (by kernel_rfl)) (by rw [hLi]; decide)
      have l19 : L 19 = false := by
        cases h : L 19
        · rfl
        · exact absurd (hcl 19 11 h (by kernel_rfl)) (by rw [hLi]; decide)
      have HBW := Lib.hid (hw1 l19)
      clear hcl hw1 hw2 hw3
      obtain rfl := e10 (hdp 10 (by kernel_rfl))
      have E0 := Lib.hid e0; have E1 := Lib.hid e1; have E2 := Lib.hid e2; have E3 := Lib.hid e3; have E4 := Lib.hid e4; have E5 := Lib.hid e5; have E6 := Lib.hid e6; have E7 := Lib.hid e7; have E8 := Lib.hid e8; have E9 := Lib.hid e9; have E12 := Lib.hid e12; have E13 := Lib.hid e13; have E14 := Lib.hid e14; have E15 := Lib.hid e15; have E16 := Lib.hid e16; have E17 := Lib.hid e17; have E18 := Lib.hid e18
      clear hdp e0 e1 e2 e3 e4 e5 e6 e7 e8 e9 e10 e11 e12 e13 e14 e15 e16 e17 e18
      refine wpOp_step rfl (fun K hK => ?_)
      go_simp
      exact hK _ _ ⟨_, _, _, _, _, _, _, _, _, _, _, _, _, _, _, _, _, _, _, rfl, (fun h => E0.out (by simpa [upOn] using h)), (fun h => E1.out (by simpa [upOn] using h)), (fun h => E2.out (by simpa [upOn] using h)), (fun h => E3.out (by simpa [upOn] using h)), (fun h => E4.out (by simpa [upOn] using h)), (fun h => E5.out (by simpa [upOn] using h)), (fun h => E6.out (by simpa [upOn] using h)), (fun h => E7.out (by simpa [upOn] using h)), (fun h => E8.out (by simpa [upOn] using h)), (fun h => E9.out (by simpa [upOn] using h)), (fun _ => rfl), (fun _ => rfl), (fun h => E12.out (by simpa [upOn] using h)), (fun h => E13.out (by simpa [upOn] using h)), (fun h => E14.out (by simpa [upOn] using h)), (fun h => E15.out (by simpa [upOn] using h)), (fun h => E16.out (by simpa [upOn] using h)), (fun h => E17.out (by simpa [upOn] using h)), (fun h => E18.out (by simpa [upOn] using h)), (fun _ => HBW.out), (fun h => by simp [upOn, l19] at h), (fun h => by simp [upOn, l20] at h)⟩
    · have l20 : L 20 = false := by
        cases h : L 20
        · rfl
        · exact absurd (hcl 20 12 h (by kernel_rfl)) (by rw [hLi]; decide)
      have l19 : L 19 = false := by
        cases h : L 19
        · rfl
        · exact absurd (hcl 19 12 h (by kernel_rfl)) (by rw [hLi]; decide)
      have HBW := Lib.hid (hw1 l19)
      clear hcl hw1 hw2 hw3
      obtain rfl := e5 (hdp 5 (by kernel_rfl))
      obtain rfl := e11 (hdp 11 (by kernel_rfl))
      have E0 := Lib.hid e0; have E1 := Lib.hid e1; have E2 := Lib.hid e2; have E3 := Lib.hid e3; have E4 := Lib.hid e4; have E6 := Lib.hid e6; have E7 := Lib.hid e7; have E8 := Lib.hid e8; have E9 := Lib.hid e9; have E10 := Lib.hid e10; have E13 := Lib.hid e13; have E14 := Lib.hid e14; have E15 := Lib.hid e15; have E16 := Lib.hid e16; have E17 := Lib.hid e17; have E18 := Lib.hid e18
      clear hdp e0 e1 e2 e3 e4 e5 e6 e7 e8 e9 e10 e11 e12 e13 e14 e15 e16 e17 e18
      refine wpOp_step rfl (fun K hK => ?_)
      go_simp
      refine ((get_any (HM.out.next HBW.out) 0 (by have := h.n0; omega)).mono ?_)
      rw [hx]
      rintro e v1 ⟨rfl, hb1⟩
      have HBV := Lib.hid (HBW.out.trans (hb1.mono HBW.out.size))
      exact hK _ _ ⟨_, _, _, _, _, _, _, _, _, _, _, _, _, _, _, _, _, _, _, rfl, (fun h => E0.out (by simpa [upOn] using h)), (fun h => E1.out (by simpa [upOn] using h)), (fun h => E2.out (by simpa [upOn] using h)), (fun h => E3.out (by simpa [upOn] using h)), (fun h => E4.out (by simpa [upOn] using h)), (fun _ => rfl), (fun h => E6.out (by simpa [upOn] using h)), (fun h => E7.out (by simpa [upOn] using h)), (fun h => E8.out (by simpa [upOn] using h)), (fun h => E9.out (by simpa [upOn] using h)), (fun h => E10.out (by simpa [upOn] using h)), (fun _ => rfl), (fun _ => rfl), (fun h => E13.out (by simpa [upOn] using h)), (fun h => E14.out (by simpa [upOn] using h)), (fun h => E15.out (by simpa [upOn] using h)), (fun h => E16.out (by simpa [upOn] using h)), (fun h => E17.out (by simpa [upOn] using h)), (fun h => E18.out (by simpa [upOn] using h)), (fun _ => HBV.out), (fun h => by simp [upOn, l19] at h), (fun h => by simp [upOn, l20] at h)⟩
    · have l20 : L 20 = false := by
        cases h : L 20
        · rfl
        · exact absurd (hcl 20 13 h (by kernel_rfl)) (by rw [hLi]; decide)
      have l19 : L 19 = false := by
        cases h : L 19
        · rfl
        · exact absurd (hcl 19 13 h (by kernel_rfl)) (by rw [hLi]; decide)
      have HBW := Lib.hid (hw1 l19)
      clear hcl hw1 hw2 hw3
      obtain rfl := e4 (hdp 4 (by kernel_rfl))
      obtain rfl := e12 (hdp 12 (by kernel_rfl))
      have E0 := Lib.hid e0; have E1 := Lib.hid e1; have E2 := Lib.hid e2; have E3 := Lib.hid e3; have E5 := Lib.hid e5; have E6 := Lib.hid e6; have E7 := Lib.hid e7; have E8 := Lib.hid e8; have E9 := Lib.hid e9; have E10 := Lib.hid e10; have E11 := Lib.hid e11; have E14 := Lib.hid e14; have E15 := Lib.hid e15; have E16 := Lib.hid e16; have E17 := Lib.hid e17; have E18 := Lib.hid e18
      clear hdp e0 e1 e2 e3 e4 e5 e6 e7 e8 e9 e10 e11 e12 e13 e14 e15 e16 e17 e18
      refine wpOp_step rfl (fun K hK => ?_)
      go_simp
      refine ((hST _).mono ?_)
      rintro e v1 ⟨rfl, hb1⟩
      have HBV := Lib.hid (HBW.out.trans (hb1.mono HBW.out.size))
      exact hK _ _ ⟨_, _, _, _, _, _, _, _, _, _, _, _, _, _, _, _, _, _, _, rfl, (fun h => E0.out (by simpa [upOn] using h)), (fun h => E1.out (by simpa [upOn] using h)), (fun h => E2.out (by simpa [upOn] using h)), (fun h => E3.out (by simpa [upOn] using h)), (fun _ => rfl), (fun h => E5.out (by simpa [upOn] using h)), (fun h => E6.out (by simpa [upOn] using h)), (fun h => E7.out (by simpa [upOn] using h)), (fun h => E8.out (by simpa [upOn] using h)), (fun h => E9.out (by simpa [upOn] using h)), (fun h => E10.out (by simpa [upOn] using h)), (fun h => E11.out (by simpa [upOn] using h)), (fun _ => rfl), (fun _ => rfl), (fun h => E14.out (by simpa [upOn] using h)), (fun h => E15.out (by simpa [upOn] using h)), (fun h => E16.out (by simpa [upOn] using h)), (fun h => E17.out (by simpa [upOn] using h)), (fun h => E18.out (by simpa [upOn] using h)), (fun _ => HBV.out), (fun h => by simp [upOn, l19] at h), (fun h => by simp [upOn, l20] at h)⟩
    · have l20 : L 20 = false := by
        cases h : L 20
        · rfl
        · exact absurd (hcl 20 14 h (by kernel_rfl)) (by rw [hLi]; decide)
      have l19 : L 19 = false := by
        cases h : L 19
        · rfl
        · exact absurd (hcl 19 14 h (by kernel_rfl)) (by rw [hLi]; decide)
      have HBW := Lib.hid (hw1 l19)
      clear hcl hw1 hw2 hw3
      obtain rfl := e13 (hdp 13 (by kernel_rfl))
      have E0 := Lib.hid e0; have E1 := Lib.hid e1; have E2 := Lib.hid e2; have E3 := Lib.hid e3; have E4 := Lib.hid e4; have E5 := Lib.hid e5; have E6 := Lib.hid e6; have E7 := Lib.hid e7; have E8 := Lib.hid e8; have E9 := Lib.hid e9; have E10 := Lib.hid e10; have E11 := Lib.hid e11; have E12 := Lib.hid e12; have E15 := Lib.hid e15; have E16 := Lib.hid e16; have E17 := Lib.hid e17; have E18 := Lib.hid e18
      clear hdp e0 e1 e2 e3 e4 e5 e6 e7 e8 e9 e10 e11 e12 e13 e14 e15 e16 e17 e18
      refine wpOp_step rfl (fun K hK => ?_)
      go_simp
      exact hK _ _ ⟨_, _, _, _, _, _, _, _, _, _, _, _, _, _, _, _, _, _, _, rfl, (fun h => E0.out (by simpa [upOn] using h)), (fun h => E1.out (by simpa [upOn] using h)), (fun h => E2.out (by simpa [upOn] using h)), (fun h => E3.out (by simpa [upOn] using h)), (fun h => E4.out (by simpa [upOn] using h)), (fun h => E5.out (by simpa [upOn] using h)), (fun h => E6.out (by simpa [upOn] using h)), (fun h => E7.out (by simpa [upOn] using h)), (fun h => E8.out (by simpa [upOn] using h)), (fun h => E9.out (by simpa [upOn] using h)), (fun h => E10.out (by simpa [upOn] using h)), (fun h => E11.out (by simpa [upOn] using h)), (fun h => E12.out (by simpa [upOn] using h)), (fun _ => rfl), (fun _ => rfl), (fun h => E15.out (by simpa [upOn] using h)), (fun h => E16.out (by simpa [upOn] using h)), (fun h => E17.out (by simpa [upOn] using h)), (fun h => E18.out (by simpa [upOn] using h)), (fun _ => HBW.out), (fun h => by simp [upOn, l19] at h), (fun h => by simp [upOn, l20] at h)⟩
    · have l20 : L 20 = false := by
        cases h : L 20
        · rfl
        · exact absurd (hcl 20 15 h (by kernel_rfl)) (by rw [hLi]; decide)
      have l19 : L 19 = false := by
        cases h : L 19
        · rfl
        · exact absurd (hcl 19 15 h (by kernel_rfl)) (by rw [hLi]; decide)
      have HBW := Lib.hid (hw1 l19)
      clear hcl hw1 hw2 hw3
      obtain rfl := e14 (hdp 14 (by kernel_rfl))
      have E0 := Lib.hid e0; have E1 := Lib.hid e1; have E2 := Lib.hid e2; have E3 := Lib.hid e3; have E4 := Lib.hid e4; have E5 := Lib.hid e5; have E6 := Lib.hid e6; have E7 := Lib.hid e7; have E8 := Lib.hid e8; have E9 := Lib.hid e9; have E10 := Lib.hid e10; have E11 := Lib.hid e11; have E12 := Lib.hid e12; have E13 := Lib.hid e13; have E16 := Lib.hid e16; have E17 := Lib.hid e17; have E18 := Lib.hid e18
      clear hdp e0 e1 e2 e3 e4 e5 e6 e7 e8 e9 e10 e11 e12 e13 e14 e15 e16 e17 e18
      refine wpOp_step rfl (fun K hK => ?_)
      go_simp
      exact hK _ _ ⟨_, _, _, _, _, _, _, _, _, _, _, _, _, _, _, _, _, _, _, rfl, (fun h => E0.out (by simpa [upOn] using h)), (fun h => E1.out (by simpa [upOn] using h)), (fun h => E2.out (by simpa [upOn] using h)), (fun h => E3.out (by simpa [upOn] using h)), (fun h => E4.out (by simpa [upOn] using h)), (fun h => E5.out (by simpa [upOn] using h)), (fun h => E6.out (by simpa [upOn] using h)), (fun h => E7.out (by simpa [upOn] using h)), (fun h => E8.out (by simpa [upOn] using h)), (fun h => E9.out (by simpa [upOn] using h)), (fun h => E10.out (by simpa [upOn] using h)), (fun h => E11.out (by simpa [upOn] using h)), (fun h => E12.out (by simpa [upOn] using h)), (fun h => E13.out (by simpa [upOn] using h)), (fun _ => rfl), (fun _ => rfl), (fun h => E16.out (by simpa [upOn] using h)), (fun h => E17.out (by simpa [upOn] using h)), (fun h => E18.out (by simpa [upOn] using h)), (fun _ => HBW.out), (fun h => by simp [upOn, l19] at h), (fun h => by simp [upOn, l20] at h)⟩
    · have l20 : L 20 = false := by
        cases h : L 20
        · rfl
        · exact absurd (hcl 20 16 h (by kernel_rfl)) (by rw [hLi]; decide)
      have HW1 := Lib.hid hw1; have HW2 := Lib.hid hw2
      clear hcl hw1 hw2 hw3
      obtain rfl := e14 (hdp 14 (by kernel_rfl))
      have E0 := Lib.hid e0; have E1 := Lib.hid e1; have E2 := Lib.hid e2; have E3 := Lib.hid e3; have E4 := Lib.hid e4; have E5 := Lib.hid e5; have E6 := Lib.hid e6; have E7 := Lib.hid e7; have E8 := Lib.hid e8; have E9 := Lib.hid e9; have E10 := Lib.hid e10; have E11 := Lib.hid e11; have E12 := Lib.hid e12; have E13 := Lib.hid e13; have E15 := Lib.hid e15; have E17 := Lib.hid e17; have E18 := Lib.hid e18
      clear hdp e0 e1 e2 e3 e4 e5 e6 e7 e8 e9 e10 e11 e12 e13 e14 e15 e16 e17 e18
      refine wpOp_step rfl (fun K hK => ?_)
      go_simp
      exact hK _ _ ⟨_, _, _, _, _, _, _, _, _, _, _, _, _, _, _, _, _, _, _, rfl, (fun h => E0.out (by simpa [upOn] using h)), (fun h => E1.out (by simpa [upOn] using h)), (fun h => E2.out (by simpa [upOn] using h)), (fun h => E3.out (by simpa [upOn] using h)), (fun h => E4.out (by simpa [upOn] using h)), (fun h => E5.out (by simpa [upOn] using h)), (fun h => E6.out (by simpa [upOn] using h)), (fun h => E7.out (by simpa [upOn] using h)), (fun h => E8.out (by simpa [upOn] using h)), (fun h => E9.out (by simpa [upOn] using h)), (fun h => E10.out (by simpa [upOn] using h)), (fun h => E11.out (by simpa [upOn] using h)), (fun h => E12.out (by simpa [upOn] using h)), (fun h => E13.out (by simpa [upOn] using h)), (fun _ => rfl), (fun h => E15.out (by simpa [upOn] using h)), (fun _ => rfl), (fun h => E17.out (by simpa [upOn] using h)), (fun h => E18.out (by simpa [upOn] using h)), (fun h => HW1.out (by simpa [upOn] using h)), (fun h k => HW2.out (by simpa [upOn] using h) l20), (fun h => by simp [upOn, l20] at h)⟩
    · have l20 : L 20 = false := by
        cases h : L 20
        · rfl
        · exact absurd (hcl 20 17 h (by kernel_rfl)) (by rw [hLi]; decide)
      have l19 : L 19 = false := by
        cases h : L 19
        · rfl
        · exact absurd (hcl 18 17 (hcl 19 18 h (by kernel_rfl)) (by kernel_rfl)) (by rw [hLi]; decide)
      have HBW := Lib.hid (hw1 l19)
      clear hcl hw1 hw2 hw3
      obtain rfl := e0 (hdp 0 (by kernel_rfl))
      have E1 := Lib.hid e1; have E2 := Lib.hid e2; have E3 := Lib.hid e3; have E4 := Lib.hid e4; have E5 := Lib.hid e5; have E6 := Lib.hid e6; have E7 := Lib.hid e7; have E8 := Lib.hid e8; have E9 := Lib.hid e9; have E10 := Lib.hid e10; have E11 := Lib.hid e11; have E12 := Lib.hid e12; have E13 := Lib.hid e13; have E14 := Lib.hid e14; have E15 := Lib.hid e15; have E16 := Lib.hid e16; have E18 := Lib.hid e18
      clear hdp e0 e1 e2 e3 e4 e5 e6 e7 e8 e9 e10 e11 e12 e13 e14 e15 e16 e17 e18
      refine wpOp_step rfl (fun K hK => ?_)
      go_simp
      exact hK _ _ ⟨_, _, _, _, _, _, _, _, _, _, _, _, _, _, _, _, _, _, _, rfl, (fun _ => rfl), (fun h => E1.out (by simpa [upOn] using h)), (fun h => E2.out (by simpa [upOn] using h)), (fun h => E3.out (by simpa [upOn] using h)), (fun h => E4.out (by simpa [upOn] using h)), (fun h => E5.out (by simpa [upOn] using h)), (fun h => E6.out (by simpa [upOn] using h)), (fun h => E7.out (by simpa [upOn] using h)), (fun h => E8.out (by simpa [upOn] using h)), (fun h => E9.out (by simpa [upOn] using h)), (fun h => E10.out (by simpa [upOn] using h)), (fun h => E11.out (by simpa [upOn] using h)), (fun h => E12.out (by simpa [upOn] using h)), (fun h => E13.out (by simpa [upOn] using h)), (fun h => E14.out (by simpa [upOn] using h)), (fun h => E15.out (by simpa [upOn] using h)), (fun h => E16.out (by simpa [upOn] using h)), (fun _ => rfl), (fun h => E18.out (by simpa [upOn] using h)), (fun _ => HBW.out), (fun h => by simp [upOn, l19] at h), (fun h => by simp [upOn, l20] at h)⟩
    · have l20 : L 20 = false := by
        cases h : L 20
        · rfl
        · exact absurd (hcl 20 18 h (by kernel_rfl)) (by rw [hLi]; decide)
      have l19 : L 19 = false := by
        cases h : L 19
        · rfl
        · exact absurd (hcl 19 18 h (by kernel_rfl)) (by rw [hLi]; decide)
      have HBW := Lib.hid (hw1 l19)
      clear hcl hw1 hw2 hw3
      obtain rfl := e17 (hdp 17 (by kernel_rfl))
      have E0 := Lib.hid e0; have E1 := Lib.hid e1; have E2 := Lib.hid e2; have E3 := Lib.hid e3; have E4 := Lib.hid e4; have E5 := Lib.hid e5; have E6 := Lib.hid e6; have E7 := Lib.hid e7; have E8 := Lib.hid e8; have E9 := Lib.hid e9; have E10 := Lib.hid e10; have E11 := Lib.hid e11; have E12 := Lib.hid e12; have E13 := Lib.hid e13; have E14 := Lib.hid e14; have E15 := Lib.hid e15; have E16 := Lib.hid e16
      clear hdp e0 e1 e2 e3 e4 e5 e6 e7 e8 e9 e10 e11 e12 e13 e14 e15 e16 e17 e18
      refine wpOp_step rfl (fun K hK => ?_)
      go_simp
      exact hK _ _ ⟨_, _, _, _, _, _, _, _, _, _, _, _, _, _, _, _, _, _, _, rfl, (fun h => E0.out (by simpa [upOn] using h)), (fun h => E1.out (by simpa [upOn] using h)), (fun h => E2.out (by simpa [upOn] using h)), (fun h => E3.out (by simpa [upOn] using h)), (fun h => E4.out (by simpa [upOn] using h)), (fun h => E5.out (by simpa [upOn] using h)), (fun h => E6.out (by simpa [upOn] using h)), (fun h => E7.out (by simpa [upOn] using h)), (fun h => E8.out (by simpa [upOn] using h)), (fun h => E9.out (by simpa [upOn] using h)), (fun h => E10.out (by simpa [upOn] using h)), (fun h => E11.out (by simpa [upOn] using h)), (fun h => E12.out (by simpa [upOn] using h)), (fun h => E13.out (by simpa [upOn] using h)), (fun h => E14.out (by simpa [upOn] using h)), (fun h => E15.out (by simpa [upOn] using h)), (fun h => E16.out (by simpa [upOn] using h)), (fun _ => rfl), (fun _ => rfl), (fun _ => HBW.out), (fun h => by simp [upOn, l19] at h), (fun h => by simp [upOn, l20] at h)⟩
    · have l20 : L 20 = false := by
        cases h : L 20
        · rfl
        · exact absurd (hcl 20 19 h (by kernel_rfl)) (by rw [hLi]; decide)
      have HBW := Lib.hid (hw1 hLi)
      clear hcl hw1 hw2 hw3
      obtain rfl := e18 (hdp 18 (by kernel_rfl))
      obtain rfl := e15 (hdp 15 (by kernel_rfl))
      have E0 := Lib.hid e0; have E1 := Lib.hid e1; have E2 := Lib.hid e2; have E3 := Lib.hid e3; have E4 := Lib.hid e4; have E5 := Lib.hid e5; have E6 := Lib.hid e6; have E7 := Lib.hid e7; have E8 := Lib.hid e8; have E9 := Lib.hid e9; have E10 := Lib.hid e10; have E11 := Lib.hid e11; have E12 := Lib.hid e12; have E13 := Lib.hid e13; have E14 := Lib.hid e14; have E16 := Lib.hid e16; have E17 := Lib.hid e17
      clear hdp e0 e1 e2 e3 e4 e5 e6 e7 e8 e9 e10 e11 e12 e13 e14 e15 e16 e17 e18
      refine wpOp_step rfl (fun K hK => ?_)
      rw [if_pos (by rfl)]
      have HB0 : Hid (w'.there p.b 0 (cpuCells (nextC m.cpu)).size) := Lib.hid fun j hj => (HM.out.next HBW.out).bt j (by have : (cpuCells (nextC m.cpu)).size = 22 := rfl; omega)
      refine wp_store_mid 53 _ _ rfl p.b 0 (cpuCells (nextC m.cpu)) rfl rfl HB0.out (mcpu_size _) (mcpu_one _) ?_
      have HS := Lib.hid (behind_a HM.out HC.out HE.out HG.out HN.out HBW.out (nextC m.cpu))
      exact hK _ _ ⟨_, _, _, _, _, _, _, _, _, _, _, _, _, _, _, _, _, _, _, rfl, (fun h => E0.out (by simpa [upOn] using h)), (fun h => E1.out (by simpa [upOn] using h)), (fun h => E2.out (by simpa [upOn] using h)), (fun h => E3.out (by simpa [upOn] using h)), (fun h => E4.out (by simpa [upOn] using h)), (fun h => E5.out (by simpa [upOn] using h)), (fun h => E6.out (by simpa [upOn] using h)), (fun h => E7.out (by simpa [upOn] using h)), (fun h => E8.out (by simpa [upOn] using h)), (fun h => E9.out (by simpa [upOn] using h)), (fun h => E10.out (by simpa [upOn] using h)), (fun h => E11.out (by simpa [upOn] using h)), (fun h => E12.out (by simpa [upOn] using h)), (fun h => E13.out (by simpa [upOn] using h)), (fun h => E14.out (by simpa [upOn] using h)), (fun _ => rfl), (fun h => E16.out (by simpa [upOn] using h)), (fun h => E17.out (by simpa [upOn] using h)), (fun _ => rfl), (fun h => by simp [upOn] at h), (fun _ _ => HS.out), (fun h => by simp [upOn, l20] at h)⟩
    · have l20 : L 20 = false := by
        exact hLi
      have l19 := hdp 19 (by kernel_rfl)
      have HS := Lib.hid (hw2 l19 hLi)
      clear hcl hw1 hw2 hw3
      obtain rfl := e16 (hdp 16 (by kernel_rfl))
      have E0 := Lib.hid e0; have E1 := Lib.hid e1; have E2 := Lib.hid e2; have E3 := Lib.hid e3; have E4 := Lib.hid e4; have E5 := Lib.hid e5; have E6 := Lib.hid e6; have E7 := Lib.hid e7; have E8 := Lib.hid e8; have E9 := Lib.hid e9; have E10 := Lib.hid e10; have E11 := Lib.hid e11; have E12 := Lib.hid e12; have E13 := Lib.hid e13; have E14 := Lib.hid e14; have E15 := Lib.hid e15; have E17 := Lib.hid e17; have E18 := Lib.hid e18
      clear hdp e0 e1 e2 e3 e4 e5 e6 e7 e8 e9 e10 e11 e12 e13 e14 e15 e16 e17 e18
      refine wpOp_step rfl (fun K hK => ?_)
      rw [if_pos (by rfl)]
      refine wp_store_row 119 _ _ rfl w.heap.size (evCells 2 (q : Int) v 3 x 0) rfl rfl 119 (evCells 0 0 false 0 0 0) HS.out.ev (mev_size ..) (by first | rfl | simp) (mev_one ..) ?_
      replace HS := Lib.hid (HS.out.stored HLO.out HN.out (evCells 2 (q : Int) v 3 x 0))
      exact hK _ _ ⟨_, _, _, _, _, _, _, _, _, _, _, _, _, _, _, _, _, _, _, rfl, (fun h => E0.out (by simpa [upOn] using h)), (fun h => E1.out (by simpa [upOn] using h)), (fun h => E2.out (by simpa [upOn] using h)), (fun h => E3.out (by simpa [upOn] using h)), (fun h => E4.out (by simpa [upOn] using h)), (fun h => E5.out (by simpa [upOn] using h)), (fun h => E6.out (by simpa [upOn] using h)), (fun h => E7.out (by simpa [upOn] using h)), (fun h => E8.out (by simpa [upOn] using h)), (fun h => E9.out (by simpa [upOn] using h)), (fun h => E10.out (by simpa [upOn] using h)), (fun h => E11.out (by simpa [upOn] using h)), (fun h => E12.out (by simpa [upOn] using h)), (fun h => E13.out (by simpa [upOn] using h)), (fun h => E14.out (by simpa [upOn] using h)), (fun h => E15.out (by simpa [upOn] using h)), (fun _ => rfl), (fun h => E17.out (by simpa [upOn] using h)), (fun h => E18.out (by simpa [upOn] using h)), (fun h => by simp [upOn, l19] at h), (fun _ h => by simp [upOn] at h), (fun _ => HS.out)⟩
  case fin =>
    rintro L a' w' hall ⟨y0, y1, y2, y3, y4, y5, y6, y7, y8, y9, y10, y11, y12, y13, y14, y15, y16, y17, y18, rfl, e0, e1, e2, e3, e4, e5, e6, e7, e8, e9, e10, e11, e12, e13, e14, e15, e16, e17, e18, -, -, hw3⟩
    obtain rfl := e0 (hall 0 (by omega))
    obtain rfl := e1 (hall 1 (by omega))
    obtain rfl := e2 (hall 2 (by omega))
    obtain rfl := e3 (hall 3 (by omega))
    obtain rfl := e4 (hall 4 (by omega))
    obtain rfl := e5 (hall 5 (by omega))
    obtain rfl := e6 (hall 6 (by omega))
    obtain rfl := e7 (hall 7 (by omega))
    obtain rfl := e8 (hall 8 (by omega))
    obtain rfl := e9 (hall 9 (by omega))
    obtain rfl := e10 (hall 10 (by omega))
    obtain rfl := e11 (hall 11 (by omega))
    obtain rfl := e12 (hall 12 (by omega))
    obtain rfl := e13 (hall 13 (by omega))
    obtain rfl := e14 (hall 14 (by omega))
    obtain rfl := e15 (hall 15 (by omega))
    obtain rfl := e16 (hall 16 (by omega))
    obtain rfl := e17 (hall 17 (by omega))
    obtain rfl := e18 (hall 18 (by omega))
    have HS := Lib.hid (hw3 (hall 20 (by omega)))
    clear hw3 hall
    have k0 : w'.cell? ⟨w.heap.size, 0, none⟩ = some (.int .i64 2) := by rw [cell_of_row _ _ _ _ _ _ HS.out.ev]; rfl
    clear e0 e1 e2 e3 e4 e5 e6 e7 e8 e9 e10 e11 e12 e13 e14 e15 e16 e17 e18
    have HSV := Lib.hid (save_any HS.out.mat q v x hxb hq h4)
    go_wp2_with (first
      | (with_reducible refine wpList_load_row rfl 119 _ rfl w.heap.size rfl 119 (evCells 2 (q : Int) v 3 x 0) (0, 0) _ HS.out.ev Tryz.underlying119 rfl (mev_size ..) ?_)
      | (go_at_call 70; (refine HSV.out.mono ?_); rintro e v9 ⟨rfl, hm9, hg9⟩))
    go_end0
    exact ⟨rfl, hm9, HS.out.cl.chg hg9, HS.out.chg.trans hg9⟩
set_option maxHeartbeats 8000000 in
set_option maxRecDepth 100000 in
theorem step_ld (h : MAt w B p m) (hc : ClAt w B p) (hB : B ≤ w.heap.size) (hpc : m.cpu.pc = 1) (q : Nat) (v : Bool) (wd : Int) (hx : wdF m.f 4 = wd) (hST : ∀ V, Calls Tryz.prog 68 #[.agg (cpuCells m.cpu), .int .u32 wd] V fun e w' => e = .returned (.tuple #[.agg (cpuCells (nextC m.cpu)), .agg (evCells 1 (q : Int) v 4 0 0)]) ∧ Below V.heap.size V w') (hq : q + 4 ≤ m.n ∨ v = true ∧ q < m.n) (h4 : v = true ∨ q % 4 = 0) :
    Calls Tryz.prog 40 #[.pointer (some ⟨p.b, 0, none⟩)] w fun e w' => e = .returned (.tuple #[]) ∧ MAt w' B p { m with cpu := ldC (nextC m.cpu) 4 (ldV m.f q v) } ∧ ClAt w' B p ∧ Chg p w w' := by
  have hn := h.n1
  have hn0 := h.n0
  have k21 := h.pc
  have k22 := h.mem
  rw [hpc] at k21
  go_enter Tryz.func40, Tryz.ntmps40
  go_wp2_with fail
  go_quiet (fail)
  go_wp2_with fail
  have hm0 := (h.next (mdrewN w nq)).next (mbelow1 (w.drewN nq) (.cells (evCells 0 0 false 0 0 0) 119))
  have hc0 := (hc.next (mdrewN w nq)).next (mbelow1 (w.drewN nq) (.cells (evCells 0 0 false 0 0 0) 119))
  have he0 : ((w.drewN nq).alloc (.cells (evCells 0 0 false 0 0 0) 119)).heap[w.heap.size]? = some (.cells (evCells 0 0 false 0 0 0) 119) := heap_alloc_last (w.drewN nq) (.cells (evCells 0 0 false 0 0 0) 119)
  have hg0 : Chg p w ((w.drewN nq).alloc (.cells (evCells 0 0 false 0 0 0) 119)) := Chg.ofBelow ((mdrewN w nq).trans (mbelow1 (w.drewN nq) _))
  have hlo : w.heap.size ≤ w.heap.size := Nat.le_refl _
  change Code.wp _ _ _ _ ((w.drewN nq).alloc (.cells (evCells 0 0 false 0 0 0) 119))
  generalize (w.drewN nq).alloc (.cells (evCells 0 0 false 0 0 0) 119) = W1 at *
  have neb : w.heap.size ≠ p.b := by have := h.lb; omega
  have neg : w.heap.size ≠ p.g := by have := h.lg; omega
  have HM := Lib.hid hm0.drew
  have HC := Lib.hid (hc0.next (Below.refl _ _).drew)
  have HE : Hid (W1.drew.heap[w.heap.size]? = some (.cells (evCells 0 0 false 0 0 0) 119 (0, 0))) := Lib.hid he0
  have HG : Hid (Chg p w W1.drew) := Lib.hid hg0.drew
  have HN := Lib.hid (And.intro neb neg)
  have HLO := Lib.hid hlo
  clear hm0 hc0 he0 hg0 hlo k21 k22 neb neg
  have HSz := Lib.hid (mcpu_len m.cpu)
  have b0 : Below W1.drew.heap.size W1.drew W1.drew := Below.refl _ _
  refine wp_region_inv' 21 rfl (fun L a' w' => ∃ y0 y1 y2 y3 y4 y5 y6 y7 y8 y9 y10 y11 y12 y13 y14 y15 y16 y17 y18 : Value, a' = { tmps := #[.pointer (some ⟨p.b, 0, none⟩), undef, .pointer (some ⟨w.heap.size, 0, none⟩), undef, .pointer (some ⟨p.b, 0, none⟩), .pointer (some ⟨p.b, 0, none⟩), .pointer (some ⟨p.b, 0, none⟩), .pointer (some ⟨p.b, 21, none⟩), .int .u32 1, .pointer (some ⟨p.b, 0, none⟩), .pointer (some ⟨p.b, 0, none⟩), .pointer (some ⟨p.b, 22, none⟩), .slice (some ⟨p.g, 0, none⟩) m.n m.n, .int .i64 (m.n : Int), .int .i64 ((m.n : Int) / 4), .int .u32 ((m.n : Int) / 4), .bool (decide ((m.n : Int) / 4 ≤ 1)), undef, undef, y14, y0, y1, y2, y3, y4, y5, y6, y7, y8, y9, y10, y11, y12, y13, y15, y16, y17, y18, undef, undef, undef, undef, undef, undef, undef, undef, undef, undef, undef, undef, undef, undef, undef, undef, undef, undef, undef, undef, undef, undef, undef, undef, undef, undef, undef, undef, undef, undef, undef, undef, undef, undef, undef, undef, undef, undef, undef], defers := [] } ∧ (L 0 = true → y0 = .pointer (some ⟨p.b, 0, none⟩)) ∧ (L 1 = true → y1 = .pointer (some ⟨p.b, 0, none⟩)) ∧ (L 2 = true → y2 = .pointer (some ⟨p.b, 0, none⟩)) ∧ (L 3 = true → y3 = .pointer (some ⟨p.b, 0, none⟩)) ∧ (L 4 = true → y4 = .agg (cpuCells m.cpu)) ∧ (L 5 = true → y5 = .pointer (some ⟨p.b, 0, none⟩)) ∧ (L 6 = true → y6 = .pointer (some ⟨p.b, 0, none⟩)) ∧ (L 7 = true → y7 = .pointer (some ⟨p.b, 0, none⟩)) ∧ (L 8 = true → y8 = .pointer (some ⟨p.b, 0, none⟩)) ∧ (L 9 = true → y9 = .pointer (some ⟨p.b, 21, none⟩)) ∧ (L 10 = true → y10 = .int .u32 1) ∧ (L 11 = true → y11 = .int .u32 4) ∧ (L 12 = true → y12 = .int .u32 wd) ∧ (L 13 = true → y13 = .tuple #[.agg (cpuCells (nextC m.cpu)), .agg (evCells 1 (q : Int) v 4 0 0)]) ∧ (L 14 = true → y14 = .tuple #[.agg (cpuCells (nextC m.cpu)), .agg (evCells 1 (q : Int) v 4 0 0)]) ∧ (L 15 = true → y15 = .agg (cpuCells (nextC m.cpu))) ∧ (L 16 = true → y16 = .agg (evCells 1 (q : Int) v 4 0 0)) ∧ (L 17 = true → y17 = .pointer (some ⟨p.b, 0, none⟩)) ∧ (L 18 = true → y18 = .pointer (some ⟨p.b, 0, none⟩)) ∧ (L 19 = false → Below W1.drew.heap.size W1.drew w') ∧ (L 19 = true → L 20 = false → Behind w B p m (nextC m.cpu) w.heap.size (evCells 0 0 false 0 0 0) w') ∧ (L 20 = true → Behind w B p m (nextC m.cpu) w.heap.size (evCells 1 (q : Int) v 4 0 0) w')) (by kernel_rfl) (by kernel_rfl) ?h0 ?step ?fin
  case h0 => exact ⟨undef, undef, undef, undef, undef, undef, undef, undef, undef, undef, undef, undef, undef, undef, undef, undef, undef, undef, undef, rfl, (fun e => by simp at e), (fun e => by simp at e), (fun e => by simp at e), (fun e => by simp at e), (fun e => by simp at e), (fun e => by simp at e), (fun e => by simp at e), (fun e => by simp at e), (fun e => by simp at e), (fun e => by simp at e), (fun e => by simp at e), (fun e => by simp at e), (fun e => by simp at e), (fun e => by simp at e), (fun e => by simp at e), (fun e => by simp at e), (fun e => by simp at e), (fun e => by simp at e), (fun e => by simp at e), fun _ => b0, fun e => by simp at e, fun e => by simp at e⟩
  case step =>
    rintro i hi L a' w' hLi hcl hdp ⟨y0, y1, y2, y3, y4, y5, y6, y7, y8, y9, y10, y11, y12, y13, y14, y15, y16, y17, y18, rfl, e0, e1, e2, e3, e4, e5, e6, e7, e8, e9, e10, e11, e12, e13, e14, e15, e16, e17, e18, hw1, hw2, hw3⟩
    have hi : i = 0 ∨ i = 1 ∨ i = 2 ∨ i = 3 ∨ i = 4 ∨ i = 5 ∨ i = 6 ∨ i = 7 ∨ i = 8 ∨ i = 9 ∨ i = 10 ∨ i = 11 ∨ i = 12 ∨ i = 13 ∨ i = 14 ∨ i = 15 ∨ i = 16 ∨ i = 17 ∨ i = 18 ∨ i = 19 ∨ i = 20 := by omega
    rcases hi with rfl | rfl | rfl | rfl | rfl | rfl | rfl | rfl | rfl | rfl | rfl | rfl | rfl | rfl | rfl | rfl | rfl | rfl | rfl | rfl | rfl
    · have l20 : L 20 = false := by
        cases h : L 20
        · rfl
        · exact absurd (hcl 20 0 h (by kernel_rfl)) (by rw [hLi]; decide)
      have l19 : L 19 = false := by
        cases h : L 19
        · rfl
        · exact absurd (hcl 19 0 h (by kernel_rfl)) (by rw [hLi]; decide)
      have HBW := Lib.hid (hw1 l19)
      clear hcl hw1 hw2 hw3
      have E1 := Lib.hid e1; have E2 := Lib.hid e2; have E3 := Lib.hid e3; have E4 := Lib.hid e4; have E5 := Lib.hid e5; have E6 := Lib.hid e6; have E7 := Lib.hid e7; have E8 := Lib.hid e8; have E9 := Lib.hid e9; have E10 := Lib.hid e10; have E11 := Lib.hid e11; have E12 := Lib.hid e12; have E13 := Lib.hid e13; have E14 := Lib.hid e14; have E15 := Lib.hid e15; have E16 := Lib.hid e16; have E17 := Lib.hid e17; have E18 := Lib.hid e18
      clear hdp e0 e1 e2 e3 e4 e5 e6 e7 e8 e9 e10 e11 e12 e13 e14 e15 e16 e17 e18
      refine wpOp_step rfl (fun K hK => ?_)
      go_simp
      exact hK _ _ ⟨_, _, _, _, _, _, _, _, _, _, _, _, _, _, _, _, _, _, _, rfl, (fun _ => rfl), (fun h => E1.out (by simpa [upOn] using h)), (fun h => E2.out (by simpa [upOn] using h)), (fun h => E3.out (by simpa [upOn] using h)), (fun h => E4.out (by simpa [upOn] using h)), (fun h => E5.out (by simpa [upOn] using h)), (fun h => E6.out (by simpa [upOn] using h)), (fun h => E7.out (by simpa [upOn] using h)), (fun h => E8.out (by simpa [upOn] using h)), (fun h => E9.out (by simpa [upOn] using h)), (fun h => E10.out (by simpa [upOn] using h)), (fun h => E11.out (by simpa [upOn] using h)), (fun h => E12.out (by simpa [upOn] using h)), (fun h => E13.out (by simpa [upOn] using h)), (fun h => E14.out (by simpa [upOn] using h)), (fun h => E15.out (by simpa [upOn] using h)), (fun h => E16.out (by simpa [upOn] using h)), (fun h => E17.out (by simpa [upOn] using h)), (fun h => E18.out (by simpa [upOn] using h)), (fun _ => HBW.out), (fun h => by simp [upOn, l19] at h), (fun h => by simp [upOn, l20] at h)⟩
    · have l20 : L 20 = false := by
        cases h : L 20
        · rfl
        · exact absurd (hcl 20 1 h (by kernel_rfl)) (by rw [hLi]; decide)
      have l19 : L 19 = false := by
        cases h : L 19
        · rfl
        · exact absurd (hcl 19 1 h (by kernel_rfl)) (by rw [hLi]; decide)
      have HBW := Lib.hid (hw1 l19)
      clear hcl hw1 hw2 hw3
      have E0 := Lib.hid e0; have E2 := Lib.hid e2; have E3 := Lib.hid e3; have E4 := Lib.hid e4; have E5 := Lib.hid e5; have E6 := Lib.hid e6; have E7 := Lib.hid e7; have E8 := Lib.hid e8; have E9 := Lib.hid e9; have E10 := Lib.hid e10; have E11 := Lib.hid e11; have E12 := Lib.hid e12; have E13 := Lib.hid e13; have E14 := Lib.hid e14; have E15 := Lib.hid e15; have E16 := Lib.hid e16; have E17 := Lib.hid e17; have E18 := Lib.hid e18
      clear hdp e0 e1 e2 e3 e4 e5 e6 e7 e8 e9 e10 e11 e12 e13 e14 e15 e16 e17 e18
      refine wpOp_step rfl (fun K hK => ?_)
      go_simp
      exact hK _ _ ⟨_, _, _, _, _, _, _, _, _, _, _, _, _, _, _, _, _, _, _, rfl, (fun h => E0.out (by simpa [upOn] using h)), (fun _ => rfl), (fun h => E2.out (by simpa [upOn] using h)), (fun h => E3.out (by simpa [upOn] using h)), (fun h => E4.out (by simpa [upOn] using h)), (fun h => E5.out (by simpa [upOn] using h)), (fun h => E6.out (by simpa [upOn] using h)), (fun h => E7.out (by simpa [upOn] using h)), (fun h => E8.out (by simpa [upOn] using h)), (fun h => E9.out (by simpa [upOn] using h)), (fun h => E10.out (by simpa [upOn] using h)), (fun h => E11.out (by simpa [upOn] using h)), (fun h => E12.out (by simpa [upOn] using h)), (fun h => E13.out (by simpa [upOn] using h)), (fun h => E14.out (by simpa [upOn] using h)), (fun h => E15.out (by simpa [upOn] using h)), (fun h => E16.out (by simpa [upOn] using h)), (fun h => E17.out (by simpa [upOn] using h)), (fun h => E18.out (by simpa [upOn] using h)), (fun _ => HBW.out), (fun h => by simp [upOn, l19] at h), (fun h => by simp [upOn, l20] at h)⟩
    · have l20 : L 20 = false := by
        cases h : L 20
        · rfl
        · exact absurd (hcl 20 2 h (by kernel_rfl)) (by rw [hLi]; decide)
      have l19 : L 19 = false := by
        cases h : L 19
        · rfl
        · exact absurd (hcl 19 2 h (by kernel_rfl)) (by rw [hLi]; decide)
      have HBW := Lib.hid (hw1 l19)
      clear hcl hw1 hw2 hw3
      obtain rfl := e1 (hdp 1 (by kernel_rfl))
      have E0 := Lib.hid e0; have E3 := Lib.hid e3; have E4 := Lib.hid e4; have E5 := Lib.hid e5; have E6 := Lib.hid e6; have E7 := Lib.hid e7; have E8 := Lib.hid e8; have E9 := Lib.hid e9; have E10 := Lib.hid e10; have E11 := Lib.hid e11; have E12 := Lib.hid e12; have E13 := Lib.hid e13; have E14 := Lib.hid e14; have E15 := Lib.hid e15; have E16 := Lib.hid e16; have E17 := Lib.hid e17; have E18 := Lib.hid e18
      clear hdp e0 e1 e2 e3 e4 e5 e6 e7 e8 e9 e10 e11 e12 e13 e14 e15 e16 e17 e18
      refine wpOp_step rfl (fun K hK => ?_)
      go_simp
      exact hK _ _ ⟨_, _, _, _, _, _, _, _, _, _, _, _, _, _, _, _, _, _, _, rfl, (fun h => E0.out (by simpa [upOn] using h)), (fun _ => rfl), (fun _ => rfl), (fun h => E3.out (by simpa [upOn] using h)), (fun h => E4.out (by simpa [upOn] using h)), (fun h => E5.out (by simpa [upOn] using h)), (fun h => E6.out (by simpa [upOn] using h)), (fun h => E7.out (by simpa [upOn] using h)), (fun h => E8.out (by simpa [upOn] using h)), (fun h => E9.out (by simpa [upOn] using h)), (fun h => E10.out (by simpa [upOn] using h)), (fun h => E11.out (by simpa [upOn] using h)), (fun h => E12.out (by simpa [upOn] using h)), (fun h => E13.out (by simpa [upOn] using h)), (fun h => E14.out (by simpa [upOn] using h)), (fun h => E15.out (by simpa [upOn] using h)), (fun h => E16.out (by simpa [upOn] using h)), (fun h => E17.out (by simpa [upOn] using h)), (fun h => E18.out (by simpa [upOn] using h)), (fun _ => HBW.out), (fun h => by simp [upOn, l19] at h), (fun h => by simp [upOn, l20] at h)⟩
    · have l20 : L 20 = false := by
        cases h : L 20
        · rfl
        · exact absurd (hcl 20 3 h (by kernel_rfl)) (by rw [hLi]; decide)
      have l19 : L 19 = false := by
        cases h : L 19
        · rfl
        · exact absurd (hcl 19 3 h (by kernel_rfl)) (by rw [hLi]; decide)
      have HBW := Lib.hid (hw1 l19)
      clear hcl hw1 hw2 hw3
      obtain rfl := e2 (hdp 2 (by kernel_rfl))
      have E0 := Lib.hid e0; have E1 := Lib.hid e1; have E4 := Lib.hid e4; have E5 := Lib.hid e5; have E6 := Lib.hid e6; have E7 := Lib.hid e7; have E8 := Lib.hid e8; have E9 := Lib.hid e9; have E10 := Lib.hid e10; have E11 := Lib.hid e11; have E12 := Lib.hid e12; have E13 := Lib.hid e13; have E14 := Lib.hid e14; have E15 := Lib.hid e15; have E16 := Lib.hid e16; have E17 := Lib.hid e17; have E18 := Lib.hid e18
      clear hdp e0 e1 e2 e3 e4 e5 e6 e7 e8 e9 e10 e11 e12 e13 e14 e15 e16 e17 e18
      refine wpOp_step rfl (fun K hK => ?_)
      go_simp
      exact hK _ _ ⟨_, _, _, _, _, _, _, _, _, _, _, _, _, _, _, _, _, _, _, rfl, (fun h => E0.out (by simpa [upOn] using h)), (fun h => E1.out (by simpa [upOn] using h)), (fun _ => rfl), (fun _ => rfl), (fun h => E4.out (by simpa [upOn] using h)), (fun h => E5.out (by simpa [upOn] using h)), (fun h => E6.out (by simpa [upOn] using h)), (fun h => E7.out (by simpa [upOn] using h)), (fun h => E8.out (by simpa [upOn] using h)), (fun h => E9.out (by simpa [upOn] using h)), (fun h => E10.out (by simpa [upOn] using h)), (fun h => E11.out (by simpa [upOn] using h)), (fun h => E12.out (by simpa [upOn] using h)), (fun h => E13.out (by simpa [upOn] using h)), (fun h => E14.out (by simpa [upOn] using h)), (fun h => E15.out (by simpa [upOn] using h)), (fun h => E16.out (by simpa [upOn] using h)), (fun h => E17.out (by simpa [upOn] using h)), (fun h => E18.out (by simpa [upOn] using h)), (fun _ => HBW.out), (fun h => by simp [upOn, l19] at h), (fun h => by simp [upOn, l20] at h)⟩
    · have l20 : L 20 = false := by
        cases h : L 20
        · rfl
        · exact absurd (hcl 20 4 h (by kernel_rfl)) (by rw [hLi]; decide)
      have l19 : L 19 = false := by
        cases h : L 19
        · rfl
        · exact absurd (hcl 19 4 h (by kernel_rfl)) (by rw [hLi]; decide)
      have HBW := Lib.hid (hw1 l19)
      clear hcl hw1 hw2 hw3
      obtain rfl := e3 (hdp 3 (by kernel_rfl))
      have E0 := Lib.hid e0; have E1 := Lib.hid e1; have E2 := Lib.hid e2; have E5 := Lib.hid e5; have E6 := Lib.hid e6; have E7 := Lib.hid e7; have E8 := Lib.hid e8; have E9 := Lib.hid e9; have E10 := Lib.hid e10; have E11 := Lib.hid e11; have E12 := Lib.hid e12; have E13 := Lib.hid e13; have E14 := Lib.hid e14; have E15 := Lib.hid e15; have E16 := Lib.hid e16; have E17 := Lib.hid e17; have E18 := Lib.hid e18
      clear hdp e0 e1 e2 e3 e4 e5 e6 e7 e8 e9 e10 e11 e12 e13 e14 e15 e16 e17 e18
      refine wpOp_step rfl (fun K hK => ?_)
      rw [if_pos (by rfl)]
      refine wp_load_mid 53 _ rfl p.b 0 rfl (cpuCells m.cpu).toList _ (HM.out.next HBW.out).cpu Tryz.underlying53 rfl HSz.out ?_
      rw [Array.toArray_toList]
      exact hK _ _ ⟨_, _, _, _, _, _, _, _, _, _, _, _, _, _, _, _, _, _, _, rfl, (fun h => E0.out (by simpa [upOn] using h)), (fun h => E1.out (by simpa [upOn] using h)), (fun h => E2.out (by simpa [upOn] using h)), (fun _ => rfl), (fun _ => rfl), (fun h => E5.out (by simpa [upOn] using h)), (fun h => E6.out (by simpa [upOn] using h)), (fun h => E7.out (by simpa [upOn] using h)), (fun h => E8.out (by simpa [upOn] using h)), (fun h => E9.out (by simpa [upOn] using h)), (fun h => E10.out (by simpa [upOn] using h)), (fun h => E11.out (by simpa [upOn] using h)), (fun h => E12.out (by simpa [upOn] using h)), (fun h => E13.out (by simpa [upOn] using h)), (fun h => E14.out (by simpa [upOn] using h)), (fun h => E15.out (by simpa [upOn] using h)), (fun h => E16.out (by simpa [upOn] using h)), (fun h => E17.out (by simpa [upOn] using h)), (fun h => E18.out (by simpa [upOn] using h)), (fun _ => HBW.out), (fun h => by simp [upOn, l19] at h), (fun h => by simp [upOn, l20] at h)⟩
    · have l20 : L 20 = false := by
        cases h : L 20
        · rfl
        · exact absurd (hcl 20 5 h (by kernel_rfl)) (by rw [hLi]; decide)
      have l19 : L 19 = false := by
        cases h : L 19
        · rfl
        · exact absurd (hcl 19 5 h (by kernel_rfl)) (by rw [hLi]; decide)
      have HBW := Lib.hid (hw1 l19)
      clear hcl hw1 hw2 hw3
      have E0 := Lib.hid e0; have E1 := Lib.hid e1; have E2 := Lib.hid e2; have E3 := Lib.hid e3; have E4 := Lib.hid e4; have E6 := Lib.hid e6; have E7 := Lib.hid e7; have E8 := Lib.hid e8; have E9 := Lib.hid e9; have E10 := Lib.hid e10; have E11 := Lib.hid e11; have E12 := Lib.hid e12; have E13 := Lib.hid e13; have E14 := Lib.hid e14; have E15 := Lib.hid e15; have E16 := Lib.hid e16; have E17 := Lib.hid e17; have E18 := Lib.hid e18
      clear hdp e0 e1 e2 e3 e4 e5 e6 e7 e8 e9 e10 e11 e12 e13 e14 e15 e16 e17 e18
      refine wpOp_step rfl (fun K hK => ?_)
      go_simp
      exact hK _ _ ⟨_, _, _, _, _, _, _, _, _, _, _, _, _, _, _, _, _, _, _, rfl, (fun h => E0.out (by simpa [upOn] using h)), (fun h => E1.out (by simpa [upOn] using h)), (fun h => E2.out (by simpa [upOn] using h)), (fun h => E3.out (by simpa [upOn] using h)), (fun h => E4.out (by simpa [upOn] using h)), (fun _ => rfl), (fun h => E6.out (by simpa [upOn] using h)), (fun h => E7.out (by simpa [upOn] using h)), (fun h => E8.out (by simpa [upOn] using h)), (fun h => E9.out (by simpa [upOn] using h)), (fun h => E10.out (by simpa [upOn] using h)), (fun h => E11.out (by simpa [upOn] using h)), (fun h => E12.out (by simpa [upOn] using h)), (fun h => E13.out (by simpa [upOn] using h)), (fun h => E14.out (by simpa [upOn] using h)), (fun h => E15.out (by simpa [upOn] using h)), (fun h => E16.out (by simpa [upOn] using h)), (fun h => E17.out (by simpa [upOn] using h)), (fun h => E18.out (by simpa [upOn] using h)), (fun _ => HBW.out), (fun h => by simp [upOn, l19] at h), (fun h => by simp [upOn, l20] at h)⟩
    · have l20 : L 20 = false := by
        cases h : L 20
        · rfl
        · exact absurd (hcl 20 6 h (by kernel_rfl)) (by rw [hLi]; decide)
      have l19 : L 19 = false := by
        cases h : L 19
        · rfl
        · exact absurd (hcl 19 6 h (by kernel_rfl)) (by rw [hLi]; decide)
      have HBW := Lib.hid (hw1 l19)
      clear hcl hw1 hw2 hw3
      have E0 := Lib.hid e0; have E1 := Lib.hid e1; have E2 := Lib.hid e2; have E3 := Lib.hid e3; have E4 := Lib.hid e4; have E5 := Lib.hid e5; have E7 := Lib.hid e7; have E8 := Lib.hid e8; have E9 := Lib.hid e9; have E10 := Lib.hid e10; have E11 := Lib.hid e11; have E12 := Lib.hid e12; have E13 := Lib.hid e13; have E14 := Lib.hid e14; have E15 := Lib.hid e15; have E16 := Lib.hid e16; have E17 := Lib.hid e17; have E18 := Lib.hid e18
      clear hdp e0 e1 e2 e3 e4 e5 e6 e7 e8 e9 e10 e11 e12 e13 e14 e15 e16 e17 e18
      refine wpOp_step rfl (fun K hK => ?_)
      go_simp
      exact hK _ _ ⟨_, _, _, _, _, _, _, _, _, _, _, _, _, _, _, _, _, _, _, rfl, (fun h => E0.out (by simpa [upOn] using h)), (fun h => E1.out (by simpa [upOn] using h)), (fun h => E2.out (by simpa [upOn] using h)), (fun h => E3.out (by simpa [upOn] using h)), (fun h => E4.out (by simpa [upOn] using h)), (fun h => E5.out (by simpa [upOn] using h)), (fun _ => rfl), (fun h => E7.out (by simpa [upOn] using h)), (fun h => E8.out (by simpa [upOn] using h)), (fun h => E9.out (by simpa [upOn] using h)), (fun h => E10.out (by simpa [upOn] using h)), (fun h => E11.out (by simpa [upOn] using h)), (fun h => E12.out (by simpa [upOn] using h)), (fun h => E13.out (by simpa [upOn] using h)), (fun h => E14.out (by simpa [upOn] using h)), (fun h => E15.out (by simpa [upOn] using h)), (fun h => E16.out (by simpa [upOn] using h)), (fun h => E17.out (by simpa [upOn] using h)), (fun h => E18.out (by simpa [upOn] using h)), (fun _ => HBW.out), (fun h => by simp [upOn, l19] at h), (fun h => by simp [upOn, l20] at h)⟩
    · have l20 : L 20 = false := by
        cases h : L 20
        · rfl
        · exact absurd (hcl 20 7 h (by kernel_rfl)) (by rw [hLi]; decide)
      have l19 : L 19 = false := by
        cases h : L 19
        · rfl
        · exact absurd (hcl 19 7 h (by kernel_rfl)) (by rw [hLi]; decide)
      have HBW := Lib.hid (hw1 l19)
      clear hcl hw1 hw2 hw3
      obtain rfl := e6 (hdp 6 (by kernel_rfl))
      have E0 := Lib.hid e0; have E1 := Lib.hid e1; have E2 := Lib.hid e2; have E3 := Lib.hid e3; have E4 := Lib.hid e4; have E5 := Lib.hid e5; have E8 := Lib.hid e8; have E9 := Lib.hid e9; have E10 := Lib.hid e10; have E11 := Lib.hid e11; have E12 := Lib.hid e12; have E13 := Lib.hid e13; have E14 := Lib.hid e14; have E15 := Lib.hid e15; have E16 := Lib.hid e16; have E17 := Lib.hid e17; have E18 := Lib.hid e18
      clear hdp e0 e1 e2 e3 e4 e5 e6 e7 e8 e9 e10 e11 e12 e13 e14 e15 e16 e17 e18
      refine wpOp_step rfl (fun K hK => ?_)
      go_simp
      exact hK _ _ ⟨_, _, _, _, _, _, _, _, _, _, _, _, _, _, _, _, _, _, _, rfl, (fun h => E0.out (by simpa [upOn] using h)), (fun h => E1.out (by simpa [upOn] using h)), (fun h => E2.out (by simpa [upOn] using h)), (fun h => E3.out (by simpa [upOn] using h)), (fun h => E4.out (by simpa [upOn] using h)), (fun h => E5.out (by simpa [upOn] using h)), (fun _ => rfl), (fun _ => rfl), (fun h => E8.out (by simpa [upOn] using h)), (fun h => E9.out (by simpa [upOn] using h)), (fun h => E10.out (by simpa [upOn] using h)), (fun h => E11.out (by simpa [upOn] using h)), (fun h => E12.out (by simpa [upOn] using h)), (fun h => E13.out (by simpa [upOn] using h)), (fun h => E14.out (by simpa [upOn] using h)), (fun h => E15.out (by simpa [upOn] using h)), (fun h => E16.out (by simpa [upOn] using h)), (fun h => E17.out (by simpa [upOn] using h)), (fun h => E18.out (by simpa [upOn] using h)), (fun _ => HBW.out), (fun h => by simp [upOn, l19] at h), (fun h => by simp [upOn, l20] at h)⟩
    · have l20 : L 20 = false := by
        cases h : L 20
        · rfl
        · exact absurd (hcl 20 8 h (by kernel_rfl)) (by rw [hLi]; decide)
      have l19 : L 19 = false := by
        cases h : L 19
        · rfl
        · exact absurd (hcl 19 8 h (by kernel_rfl)) (by rw [hLi]; decide)
      have HBW := Lib.hid (hw1 l19)
      clear hcl hw1 hw2 hw3
      obtain rfl := e7 (hdp 7 (by kernel_rfl))
      have E0 := Lib.hid e0; have E1 := Lib.hid e1; have E2 := Lib.hid e2; have E3 := Lib.hid e3; have E4 := Lib.hid e4; have E5 := Lib.hid e5; have E6 := Lib.hid e6; have E9 := Lib.hid e9; have E10 := Lib.hid e10; have E11 := Lib.hid e11; have E12 := Lib.hid e12; have E13 := Lib.hid e13; have E14 := Lib.hid e14; have E15 := Lib.hid e15; have E16 := Lib.hid e16; have E17 := Lib.hid e17; have E18 := Lib.hid e18
      clear hdp e0 e1 e2 e3 e4 e5 e6 e7 e8 e9 e10 e11 e12 e13 e14 e15 e16 e17 e18
      refine wpOp_step rfl (fun K hK => ?_)
      go_simp
      exact hK _ _ ⟨_, _, _, _, _, _, _, _, _, _, _, _, _, _, _, _, _, _, _, rfl, (fun h => E0.out (by simpa [upOn] using h)), (fun h => E1.out (by simpa [upOn] using h)), (fun h => E2.out (by simpa [upOn] using h)), (fun h => E3.out (by simpa [upOn] using h)), (fun h => E4.out (by simpa [upOn] using h)), (fun h => E5.out (by simpa [upOn] using h)), (fun h => E6.out (by simpa [upOn] using h)), (fun _ => rfl), (fun _ => rfl), (fun h => E9.out (by simpa [upOn] using h)), (fun h => E10.out (by simpa [upOn] using h)), (fun h => E11.out (by simpa [upOn] using h)), (fun h => E12.out (by simpa [upOn] using h)), (fun h => E13.out (by simpa [upOn] using h)), (fun h => E14.out (by simpa [upOn] using h)), (fun h => E15.out (by simpa [upOn] using h)), (fun h => E16.out (by simpa [upOn] using h)), (fun h => E17.out (by simpa [upOn] using h)), (fun h => E18.out (by simpa [upOn] using h)), (fun _ => HBW.out), (fun h => by simp [upOn, l19] at h), (fun h => by simp [upOn, l20] at h)⟩
    · have l20 : L 20 = false := by
        cases h : L 20
        · rfl
        · exact absurd (hcl 20 9 h (by kernel_rfl)) (by rw [hLi]; decide)
      have l19 : L 19 = false := by
        cases h : L 19
        · rfl
        · exact absurd (hcl 19 9 h (by kernel_rfl)) (by rw [hLi]; decide)
      have HBW := Lib.hid (hw1 l19)
      clear hcl hw1 hw2 hw3
      obtain rfl := e8 (hdp 8 (by kernel_rfl))
      have E0 := Lib.hid e0; have E1 := Lib.hid e1; have E2 := Lib.hid e2; have E3 := Lib.hid e3; have E4 := Lib.hid e4; have E5 := Lib.hid e5; have E6 := Lib.hid e6; have E7 := Lib.hid e7; have E10 := Lib.hid e10; have E11 := Lib.hid e11; have E12 := Lib.hid e12; have E13 := Lib.hid e13; have E14 := Lib.hid e14; have E15 := Lib.hid e15; have E16 := Lib.hid e16; have E17 := Lib.hid e17; have E18 := Lib.hid e18
      clear hdp e0 e1 e2 e3 e4 e5 e6 e7 e8 e9 e10 e11 e12 e13 e14 e15 e16 e17 e18
      refine wpOp_step rfl (fun K hK => ?_)
      go_simp
      exact hK _ _ ⟨_, _, _, _, _, _, _, _, _, _, _, _, _, _, _, _, _, _, _, rfl, (fun h => E0.out (by simpa [upOn] using h)), (fun h => E1.out (by simpa [upOn] using h)), (fun h => E2.out (by simpa [upOn] using h)), (fun h => E3.out (by simpa [upOn] using h)), (fun h => E4.out (by simpa [upOn] using h)), (fun h => E5.out (by simpa [upOn] using h)), (fun h => E6.out (by simpa [upOn] using h)), (fun h => E7.out (by simpa [upOn] using h)), (fun _ => rfl), (fun _ => rfl), (fun h => E10.out (by simpa [upOn] using h)), (fun h => E11.out (by simpa [upOn] using h)), (fun h => E12.out (by simpa [upOn] using h)), (fun h => E13.out (by simpa [upOn] using h)), (fun h => E14.out (by simpa [upOn] using h)), (fun h => E15.out (by simpa [upOn] using h)), (fun h => E16.out (by simpa [upOn] using h)), (fun h => E17.out (by simpa [upOn] using h)), (fun h => E18.out (by simpa [upOn] using h)), (fun _ => HBW.out), (fun h => by simp [upOn, l19] at h), (fun h => by simp [upOn, l20] at h)⟩
    · have l20 : L 20 = false := by
        cases h : L 20
        · rfl
        · exact absurd (hcl 20 10 h (by kernel_rfl)) (by rw [hLi]; decide)
      have l19 : L 19 = false := by
        cases h : L 19
        · rfl
        · exact absurd (hcl 19 10 h (by kernel_rfl)) (by rw [hLi]; decide)
      have HBW := Lib.hid (hw1 l19)
      clear hcl hw1 hw2 hw3
      obtain rfl := e9 (hdp 9 (by kernel_rfl))
      have E0 := Lib.hid e0; have E1 := Lib.hid e1; have E2 := Lib.hid e2; have E3 := Lib.hid e3; have E4 := Lib.hid e4; have E5 := Lib.hid e5; have E6 := Lib.hid e6; have E7 := Lib.hid e7; have E8 := Lib.hid e8; have E11 := Lib.hid e11; have E12 := Lib.hid e12; have E13 := Lib.hid e13; have E14 := Lib.hid e14; have E15 := Lib.hid e15; have E16 := Lib.hid e16; have E17 := Lib.hid e17; have E18 := Lib.hid e18
      clear hdp e0 e1 e2 e3 e4 e5 e6 e7 e8 e9 e10 e11 e12 e13 e14 e15 e16 e17 e18
      refine wpOp_step rfl (fun K hK => ?_)
      have k21 : w'.cell? ⟨p.b, 21, none⟩ = some (.int .u32 1) := by rw [← hpc]; exact (HM.out.next HBW.out).pc
      go_simp
      exact hK _ _ ⟨_, _, _, _, _, _, _, _, _, _, _, _, _, _, _, _, _, _, _, rfl, (fun h => E0.out (by simpa [upOn] using h)), (fun h => E1.out (by simpa [upOn] using h)), (fun h => E2.out (by simpa [upOn] using h)), (fun h => E3.out (by simpa [upOn] using h)), (fun h => E4.out (by simpa [upOn] using h)), (fun h => E5.out (by simpa [upOn] using h)), (fun h => E6.out (by simpa [upOn] using h)), (fun h => E7.out (by simpa [upOn] using h)), (fun h => E8.out (by simpa [upOn] using h)), (fun _ => rfl), (fun _ => rfl), (fun h => E11.out (by simpa [upOn] using h)), (fun h => E12.out (by simpa [upOn] using h)), (fun h => E13.out (by simpa [upOn] using h)), (fun h => E14.out (by simpa [upOn] using h)), (fun h => E15.out (by simpa [upOn] using h)), (fun h => E16.out (by simpa [upOn] using h)), (fun h => E17.out (by simpa [upOn] using h)), (fun h => E18.out (by simpa [upOn] using h)), (fun _ => HBW.out), (fun h => by simp [upOn, l19] at h), (fun h => by simp [upOn, l20] at h)⟩
    · have l20 : L 20 = false := by
        cases h : L 20
        · rfl
        · exact absurd (hcl 20 11 h (by kernel_rfl)) (by rw [hLi]; decide)
      have l19 : L 19 = false := by
        cases h : L 19
        · rfl
        · exact absurd (hcl 19 11 h (by kernel_rfl)) (by rw [hLi]; decide)
      have HBW := Lib.hid (hw1 l19)
      clear hcl hw1 hw2 hw3
      obtain rfl := e10 (hdp 10 (by kernel_rfl))
      have E0 := Lib.hid e0; have E1 := Lib.hid e1; have E2 := Lib.hid e2; have E3 := Lib.hid e3; have E4 := Lib.hid e4; have E5 := Lib.hid e5; have E6 := Lib.hid e6; have E7 := Lib.hid e7; have E8 := Lib.hid e8; have E9 := Lib.hid e9; have E12 := Lib.hid e12; have E13 := Lib.hid e13; have E14 := Lib.hid e14; have E15 := Lib.hid e15; have E16 := Lib.hid e16; have E17 := Lib.hid e17; have E18 := Lib.hid e18
      clear hdp e0 e1 e2 e3 e4 e5 e6 e7 e8 e9 e10 e11 e12 e13 e14 e15 e16 e17 e18
      refine wpOp_step rfl (fun K hK => ?_)
      go_simp
      exact hK _ _ ⟨_, _, _, _, _, _, _, _, _, _, _, _, _, _, _, _, _, _, _, rfl, (fun h => E0.out (by simpa [upOn] using h)), (fun h => E1.out (by simpa [upOn] using h)), (fun h => E2.out (by simpa [upOn] using h)), (fun h => E3.out (by simpa [upOn] using h)), (fun h => E4.out (by simpa [upOn] using h)), (fun h => E5.out (by simpa [upOn] using h)), (fun h => E6.out (by simpa [upOn] using h)), (fun h => E7.out (by simpa [upOn] using h)), (fun h => E8.out (by simpa [upOn] using h)), (fun h => E9.out (by simpa [upOn] using h)), (fun _ => rfl), (fun _ => rfl), (fun h => E12.out (by simpa [upOn] using h)), (fun h => E13.out (by simpa [upOn] using h)), (fun h => E14.out (by simpa [upOn] using h)), (fun h => E15.out (by simpa [upOn] using h)), (fun h => E16.out (by simpa [upOn] using h)), (fun h => E17.out (by simpa [upOn] using h)), (fun h => E18.out (by simpa [upOn] using h)), (fun _ => HBW.out), (fun h => by simp [upOn, l19] at h), (fun h => by simp [upOn, l20] at h)⟩
    · have l20 : L 20 = false := by
        cases h : L 20
        · rfl
        · exact absurd (hcl 20 12 h (by kernel_rfl)) (by rw [hLi]; decide)
      have l19 : L 19 = false := by
        cases h : L 19
        · rfl
        · exact absurd (hcl 19 12 h (by kernel_rfl)) (by rw [hLi]; decide)
      have HBW := Lib.hid (hw1 l19)
      clear hcl hw1 hw2 hw3
      obtain rfl := e5 (hdp 5 (by kernel_rfl))
      obtain rfl := e11 (hdp 11 (by kernel_rfl))
      have E0 := Lib.hid e0; have E1 := Lib.hid e1; have E2 := Lib.hid e2; have E3 := Lib.hid e3; have E4 := Lib.hid e4; have E6 := Lib.hid e6; have E7 := Lib.hid e7; have E8 := Lib.hid e8; have E9 := Lib.hid e9; have E10 := Lib.hid e10; have E13 := Lib.hid e13; have E14 := Lib.hid e14; have E15 := Lib.hid e15; have E16 := Lib.hid e16; have E17 := Lib.hid e17; have E18 := Lib.hid e18
      clear hdp e0 e1 e2 e3 e4 e5 e6 e7 e8 e9 e10 e11 e12 e13 e14 e15 e16 e17 e18
      refine wpOp_step rfl (fun K hK => ?_)
      go_simp
      refine ((get_any (HM.out.next HBW.out) 4 (by have := h.n0; omega)).mono ?_)
      rw [hx]
      rintro e v1 ⟨rfl, hb1⟩
      have HBV := Lib.hid (HBW.out.trans (hb1.mono HBW.out.size))
      exact hK _ _ ⟨_, _, _, _, _, _, _, _, _, _, _, _, _, _, _, _, _, _, _, rfl, (fun h => E0.out (by simpa [upOn] using h)), (fun h => E1.out (by simpa [upOn] using h)), (fun h => E2.out (by simpa [upOn] using h)), (fun h => E3.out (by simpa [upOn] using h)), (fun h => E4.out (by simpa [upOn] using h)), (fun _ => rfl), (fun h => E6.out (by simpa [upOn] using h)), (fun h => E7.out (by simpa [upOn] using h)), (fun h => E8.out (by simpa [upOn] using h)), (fun h => E9.out (by simpa [upOn] using h)), (fun h => E10.out (by simpa [upOn] using h)), (fun _ => rfl), (fun _ => rfl), (fun h => E13.out (by simpa [upOn] using h)), (fun h => E14.out (by simpa [upOn] using h)), (fun h => E15.out (by simpa [upOn] using h)), (fun h => E16.out (by simpa [upOn] using h)), (fun h => E17.out (by simpa [upOn] using h)), (fun h => E18.out (by simpa [upOn] using h)), (fun _ => HBV.out), (fun h => by simp [upOn, l19] at h), (fun h => by simp [upOn, l20] at h)⟩
    · have l20 : L 20 = false := by
        cases h : L 20
        · rfl
        · exact absurd (hcl 20 13 h (by kernel_rfl)) (by rw [hLi]; decide)
      have l19 : L 19 = false := by
        cases h : L 19
        · rfl
        · exact absurd (hcl 19 13 h (by kernel_rfl)) (by rw [hLi]; decide)
      have HBW := Lib.hid (hw1 l19)
      clear hcl hw1 hw2 hw3
      obtain rfl := e4 (hdp 4 (by kernel_rfl))
      obtain rfl := e12 (hdp 12 (by kernel_rfl))
      have E0 := Lib.hid e0; have E1 := Lib.hid e1; have E2 := Lib.hid e2; have E3 := Lib.hid e3; have E5 := Lib.hid e5; have E6 := Lib.hid e6; have E7 := Lib.hid e7; have E8 := Lib.hid e8; have E9 := Lib.hid e9; have E10 := Lib.hid e10; have E11 := Lib.hid e11; have E14 := Lib.hid e14; have E15 := Lib.hid e15; have E16 := Lib.hid e16; have E17 := Lib.hid e17; have E18 := Lib.hid e18
      clear hdp e0 e1 e2 e3 e4 e5 e6 e7 e8 e9 e10 e11 e12 e13 e14 e15 e16 e17 e18
      refine wpOp_step rfl (fun K hK => ?_)
      go_simp
      refine ((hST _).mono ?_)
      rintro e v1 ⟨rfl, hb1⟩
      have HBV := Lib.hid (HBW.out.trans (hb1.mono HBW.out.size))
      exact hK _ _ ⟨_, _, _, _, _, _, _, _, _, _, _, _, _, _, _, _, _, _, _, rfl, (fun h => E0.out (by simpa [upOn] using h)), (fun h => E1.out (by simpa [upOn] using h)), (fun h => E2.out (by simpa [upOn] using h)), (fun h => E3.out (by simpa [upOn] using h)), (fun _ => rfl), (fun h => E5.out (by simpa [upOn] using h)), (fun h => E6.out (by simpa [upOn] using h)), (fun h => E7.out (by simpa [upOn] using h)), (fun h => E8.out (by simpa [upOn] using h)), (fun h => E9.out (by simpa [upOn] using h)), (fun h => E10.out (by simpa [upOn] using h)), (fun h => E11.out (by simpa [upOn] using h)), (fun _ => rfl), (fun _ => rfl), (fun h => E14.out (by simpa [upOn] using h)), (fun h => E15.out (by simpa [upOn] using h)), (fun h => E16.out (by simpa [upOn] using h)), (fun h => E17.out (by simpa [upOn] using h)), (fun h => E18.out (by simpa [upOn] using h)), (fun _ => HBV.out), (fun h => by simp [upOn, l19] at h), (fun h => by simp [upOn, l20] at h)⟩
    · have l20 : L 20 = false := by
        cases h : L 20
        · rfl
        · exact absurd (hcl 20 14 h (by kernel_rfl)) (by rw [hLi]; decide)
      have l19 : L 19 = false := by
        cases h : L 19
        · rfl
        · exact absurd (hcl 19 14 h (by kernel_rfl)) (by rw [hLi]; decide)
      have HBW := Lib.hid (hw1 l19)
      clear hcl hw1 hw2 hw3
      obtain rfl := e13 (hdp 13 (by kernel_rfl))
      have E0 := Lib.hid e0; have E1 := Lib.hid e1; have E2 := Lib.hid e2; have E3 := Lib.hid e3; have E4 := Lib.hid e4; have E5 := Lib.hid e5; have E6 := Lib.hid e6; have E7 := Lib.hid e7; have E8 := Lib.hid e8; have E9 := Lib.hid e9; have E10 := Lib.hid e10; have E11 := Lib.hid e11; have E12 := Lib.hid e12; have E15 := Lib.hid e15; have E16 := Lib.hid e16; have E17 := Lib.hid e17; have E18 := Lib.hid e18
      clear hdp e0 e1 e2 e3 e4 e5 e6 e7 e8 e9 e10 e11 e12 e13 e14 e15 e16 e17 e18
      refine wpOp_step rfl (fun K hK => ?_)
      go_simp
      exact hK _ _ ⟨_, _, _, _, _, _, _, _, _, _, _, _, _, _, _, _, _, _, _, rfl, (fun h => E0.out (by simpa [upOn] using h)), (fun h => E1.out (by simpa [upOn] using h)), (fun h => E2.out (by simpa [upOn] using h)), (fun h => E3.out (by simpa [upOn] using h)), (fun h => E4.out (by simpa [upOn] using h)), (fun h => E5.out (by simpa [upOn] using h)), (fun h => E6.out (by simpa [upOn] using h)), (fun h => E7.out (by simpa [upOn] using h)), (fun h => E8.out (by simpa [upOn] using h)), (fun h => E9.out (by simpa [upOn] using h)), (fun h => E10.out (by simpa [upOn] using h)), (fun h => E11.out (by simpa [upOn] using h)), (fun h => E12.out (by simpa [upOn] using h)), (fun _ => rfl), (fun _ => rfl), (fun h => E15.out (by simpa [upOn] using h)), (fun h => E16.out (by simpa [upOn] using h)), (fun h => E17.out (by simpa [upOn] using h)), (fun h => E18.out (by simpa [upOn] using h)), (fun _ => HBW.out), (fun h => by simp [upOn, l19] at h), (fun h => by simp [upOn, l20] at h)⟩
    · have l20 : L 20 = false := by
        cases h : L 20
        · rfl
        · exact absurd (hcl 20 15 h (by kernel_rfl)) (by rw [hLi]; decide)
      have l19 : L 19 = false := by
        cases h : L 19
        · rfl
        · exact absurd (hcl 19 15 h (by kernel_rfl)) (by rw [hLi]; decide)
      have HBW := Lib.hid (hw1 l19)
      clear hcl hw1 hw2 hw3
      obtain rfl := e14 (hdp 14 (by kernel_rfl))
      have E0 := Lib.hid e0; have E1 := Lib.hid e1; have E2 := Lib.hid e2; have E3 := Lib.hid e3; have E4 := Lib.hid e4; have E5 := Lib.hid e5; have E6 := Lib.hid e6; have E7 := Lib.hid e7; have E8 := Lib.hid e8; have E9 := Lib.hid e9; have E10 := Lib.hid e10; have E11 := Lib.hid e11; have E12 := Lib.hid e12; have E13 := Lib.hid e13; have E16 := Lib.hid e16; have E17 := Lib.hid e17; have E18 := Lib.hid e18
      clear hdp e0 e1 e2 e3 e4 e5 e6 e7 e8 e9 e10 e11 e12 e13 e14 e15 e16 e17 e18
      refine wpOp_step rfl (fun K hK => ?_)
      go_simp
      exact hK _ _ ⟨_, _, _, _, _, _, _, _, _, _, _, _, _, _, _, _, _, _, _, rfl, (fun h => E0.out (by simpa [upOn] using h)), (fun h => E1.out (by simpa [upOn] using h)), (fun h => E2.out (by simpa [upOn] using h)), (fun h => E3.out (by simpa [upOn] using h)), (fun h => E4.out (by simpa [upOn] using h)), (fun h => E5.out (by simpa [upOn] using h)), (fun h => E6.out (by simpa [upOn] using h)), (fun h => E7.out (by simpa [upOn] using h)), (fun h => E8.out (by simpa [upOn] using h)), (fun h => E9.out (by simpa [upOn] using h)), (fun h => E10.out (by simpa [upOn] using h)), (fun h => E11.out (by simpa [upOn] using h)), (fun h => E12.out (by simpa [upOn] using h)), (fun h => E13.out (by simpa [upOn] using h)), (fun _ => rfl), (fun _ => rfl), (fun h => E16.out (by simpa [upOn] using h)), (fun h => E17.out (by simpa [upOn] using h)), (fun h => E18.out (by simpa [upOn] using h)), (fun _ => HBW.out), (fun h => by simp [upOn, l19] at h), (fun h => by simp [upOn, l20] at h)⟩
    · have l20 : L 20 = false := by
        cases h : L 20
        · rfl
        · exact absurd (hcl 20 16 h (by kernel_rfl)) (by rw [hLi]; decide)
      have HW1 := Lib.hid hw1; have HW2 := Lib.hid hw2
      clear hcl hw1 hw2 hw3
      obtain rfl := e14 (hdp 14 (by kernel_rfl))
      have E0 := Lib.hid e0; have E1 := Lib.hid e1; have E2 := Lib.hid e2; have E3 := Lib.hid e3; have E4 := Lib.hid e4; have E5 := Lib.hid e5; have E6 := Lib.hid e6; have E7 := Lib.hid e7; have E8 := Lib.hid e8; have E9 := Lib.hid e9; have E10 := Lib.hid e10; have E11 := Lib.hid e11; have E12 := Lib.hid e12; have E13 := Lib.hid e13; have E15 := Lib.hid e15; have E17 := Lib.hid e17; have E18 := Lib.hid e18
      clear hdp e0 e1 e2 e3 e4 e5 e6 e7 e8 e9 e10 e11 e12 e13 e14 e15 e16 e17 e18
      refine wpOp_step rfl (fun K hK => ?_)
      go_simp
      exact hK _ _ ⟨_, _, _, _, _, _, _, _, _, _, _, _, _, _, _, _, _, _, _, rfl, (fun h => E0.out (by simpa [upOn] using h)), (fun h => E1.out (by simpa [upOn] using h)), (fun h => E2.out (by simpa [upOn] using h)), (fun h => E3.out (by simpa [upOn] using h)), (fun h => E4.out (by simpa [upOn] using h)), (fun h => E5.out (by simpa [upOn] using h)), (fun h => E6.out (by simpa [upOn] using h)), (fun h => E7.out (by simpa [upOn] using h)), (fun h => E8.out (by simpa [upOn] using h)), (fun h => E9.out (by simpa [upOn] using h)), (fun h => E10.out (by simpa [upOn] using h)), (fun h => E11.out (by simpa [upOn] using h)), (fun h => E12.out (by simpa [upOn] using h)), (fun h => E13.out (by simpa [upOn] using h)), (fun _ => rfl), (fun h => E15.out (by simpa [upOn] using h)), (fun _ => rfl), (fun h => E17.out (by simpa [upOn] using h)), (fun h => E18.out (by simpa [upOn] using h)), (fun h => HW1.out (by simpa [upOn] using h)), (fun h k => HW2.out (by simpa [upOn] using h) l20), (fun h => by simp [upOn, l20] at h)⟩
    · have l20 : L 20 = false := by
        cases h : L 20
        · rfl
        · exact absurd (hcl 20 17 h (by kernel_rfl)) (by rw [hLi]; decide)
      have l19 : L 19 = false := by
        cases h : L 19
        · rfl
        · exact absurd (hcl 18 17 (hcl 19 18 h (by kernel_rfl)) (by kernel_rfl)) (by rw [hLi]; decide)
      have HBW := Lib.hid (hw1 l19)
      clear hcl hw1 hw2 hw3
      obtain rfl := e0 (hdp 0 (by kernel_rfl))
      have E1 := Lib.hid e1; have E2 := Lib.hid e2; have E3 := Lib.hid e3; have E4 := Lib.hid e4; have E5 := Lib.hid e5; have E6 := Lib.hid e6; have E7 := Lib.hid e7; have E8 := Lib.hid e8; have E9 := Lib.hid e9; have E10 := Lib.hid e10; have E11 := Lib.hid e11; have E12 := Lib.hid e12; have E13 := Lib.hid e13; have E14 := Lib.hid e14; have E15 := Lib.hid e15; have E16 := Lib.hid e16; have E18 := Lib.hid e18
      clear hdp e0 e1 e2 e3 e4 e5 e6 e7 e8 e9 e10 e11 e12 e13 e14 e15 e16 e17 e18
      refine wpOp_step rfl (fun K hK => ?_)
      go_simp
      exact hK _ _ ⟨_, _, _, _, _, _, _, _, _, _, _, _, _, _, _, _, _, _, _, rfl, (fun _ => rfl), (fun h => E1.out (by simpa [upOn] using h)), (fun h => E2.out (by simpa [upOn] using h)), (fun h => E3.out (by simpa [upOn] using h)), (fun h => E4.out (by simpa [upOn] using h)), (fun h => E5.out (by simpa [upOn] using h)), (fun h => E6.out (by simpa [upOn] using h)), (fun h => E7.out (by simpa [upOn] using h)), (fun h => E8.out (by simpa [upOn] using h)), (fun h => E9.out (by simpa [upOn] using h)), (fun h => E10.out (by simpa [upOn] using h)), (fun h => E11.out (by simpa [upOn] using h)), (fun h => E12.out (by simpa [upOn] using h)), (fun h => E13.out (by simpa [upOn] using h)), (fun h => E14.out (by simpa [upOn] using h)), (fun h => E15.out (by simpa [upOn] using h)), (fun h => E16.out (by simpa [upOn] using h)), (fun _ => rfl), (fun h => E18.out (by simpa [upOn] using h)), (fun _ => HBW.out), (fun h => by simp [upOn, l19] at h), (fun h => by simp [upOn, l20] at h)⟩
    · have l20 : L 20 = false := by
        cases h : L 20
        · rfl
        · exact absurd (hcl 20 18 h (by kernel_rfl)) (by rw [hLi]; decide)
      have l19 : L 19 = false := by
        cases h : L 19
        · rfl
        · exact absurd (hcl 19 18 h (by kernel_rfl)) (by rw [hLi]; decide)
      have HBW := Lib.hid (hw1 l19)
      clear hcl hw1 hw2 hw3
      obtain rfl := e17 (hdp 17 (by kernel_rfl))
      have E0 := Lib.hid e0; have E1 := Lib.hid e1; have E2 := Lib.hid e2; have E3 := Lib.hid e3; have E4 := Lib.hid e4; have E5 := Lib.hid e5; have E6 := Lib.hid e6; have E7 := Lib.hid e7; have E8 := Lib.hid e8; have E9 := Lib.hid e9; have E10 := Lib.hid e10; have E11 := Lib.hid e11; have E12 := Lib.hid e12; have E13 := Lib.hid e13; have E14 := Lib.hid e14; have E15 := Lib.hid e15; have E16 := Lib.hid e16
      clear hdp e0 e1 e2 e3 e4 e5 e6 e7 e8 e9 e10 e11 e12 e13 e14 e15 e16 e17 e18
      refine wpOp_step rfl (fun K hK => ?_)
      go_simp
      exact hK _ _ ⟨_, _, _, _, _, _, _, _, _, _, _, _, _, _, _, _, _, _, _, rfl, (fun h => E0.out (by simpa [upOn] using h)), (fun h => E1.out (by simpa [upOn] using h)), (fun h => E2.out (by simpa [upOn] using h)), (fun h => E3.out (by simpa [upOn] using h)), (fun h => E4.out (by simpa [upOn] using h)), (fun h => E5.out (by simpa [upOn] using h)), (fun h => E6.out (by simpa [upOn] using h)), (fun h => E7.out (by simpa [upOn] using h)), (fun h => E8.out (by simpa [upOn] using h)), (fun h => E9.out (by simpa [upOn] using h)), (fun h => E10.out (by simpa [upOn] using h)), (fun h => E11.out (by simpa [upOn] using h)), (fun h => E12.out (by simpa [upOn] using h)), (fun h => E13.out (by simpa [upOn] using h)), (fun h => E14.out (by simpa [upOn] using h)), (fun h => E15.out (by simpa [upOn] using h)), (fun h => E16.out (by simpa [upOn] using h)), (fun _ => rfl), (fun _ => rfl), (fun _ => HBW.out), (fun h => by simp [upOn, l19] at h), (fun h => by simp [upOn, l20] at h)⟩
    · have l20 : L 20 = false := by
        cases h : L 20
        · rfl
        · exact absurd (hcl 20 19 h (by kernel_rfl)) (by rw [hLi]; decide)
      have HBW := Lib.hid (hw1 hLi)
      clear hcl hw1 hw2 hw3
      obtain rfl := e18 (hdp 18 (by kernel_rfl))
      obtain rfl := e15 (hdp 15 (by kernel_rfl))
      have E0 := Lib.hid e0; have E1 := Lib.hid e1; have E2 := Lib.hid e2; have E3 := Lib.hid e3; have E4 := Lib.hid e4; have E5 := Lib.hid e5; have E6 := Lib.hid e6; have E7 := Lib.hid e7; have E8 := Lib.hid e8; have E9 := Lib.hid e9; have E10 := Lib.hid e10; have E11 := Lib.hid e11; have E12 := Lib.hid e12; have E13 := Lib.hid e13; have E14 := Lib.hid e14; have E16 := Lib.hid e16; have E17 := Lib.hid e17
      clear hdp e0 e1 e2 e3 e4 e5 e6 e7 e8 e9 e10 e11 e12 e13 e14 e15 e16 e17 e18
      refine wpOp_step rfl (fun K hK => ?_)
      rw [if_pos (by rfl)]
      have HB0 : Hid (w'.there p.b 0 (cpuCells (nextC m.cpu)).size) := Lib.hid fun j hj => (HM.out.next HBW.out).bt j (by have : (cpuCells (nextC m.cpu)).size = 22 := rfl; omega)
      refine wp_store_mid 53 _ _ rfl p.b 0 (cpuCells (nextC m.cpu)) rfl rfl HB0.out (mcpu_size _) (mcpu_one _) ?_
      have HS := Lib.hid (behind_a HM.out HC.out HE.out HG.out HN.out HBW.out (nextC m.cpu))
      exact hK _ _ ⟨_, _, _, _, _, _, _, _, _, _, _, _, _, _, _, _, _, _, _, rfl, (fun h => E0.out (by simpa [upOn] using h)), (fun h => E1.out (by simpa [upOn] using h)), (fun h => E2.out (by simpa [upOn] using h)), (fun h => E3.out (by simpa [upOn] using h)), (fun h => E4.out (by simpa [upOn] using h)), (fun h => E5.out (by simpa [upOn] using h)), (fun h => E6.out (by simpa [upOn] using h)), (fun h => E7.out (by simpa [upOn] using h)), (fun h => E8.out (by simpa [upOn] using h)), (fun h => E9.out (by simpa [upOn] using h)), (fun h => E10.out (by simpa [upOn] using h)), (fun h => E11.out (by simpa [upOn] using h)), (fun h => E12.out (by simpa [upOn] using h)), (fun h => E13.out (by simpa [upOn] using h)), (fun h => E14.out (by simpa [upOn] using h)), (fun _ => rfl), (fun h => E16.out (by simpa [upOn] using h)), (fun h => E17.out (by simpa [upOn] using h)), (fun _ => rfl), (fun h => by simp [upOn] at h), (fun _ _ => HS.out), (fun h => by simp [upOn, l20] at h)⟩
    · have l20 : L 20 = false := by
        exact hLi
      have l19 := hdp 19 (by kernel_rfl)
      have HS := Lib.hid (hw2 l19 hLi)
      clear hcl hw1 hw2 hw3
      obtain rfl := e16 (hdp 16 (by kernel_rfl))
      have E0 := Lib.hid e0; have E1 := Lib.hid e1; have E2 := Lib.hid e2; have E3 := Lib.hid e3; have E4 := Lib.hid e4; have E5 := Lib.hid e5; have E6 := Lib.hid e6; have E7 := Lib.hid e7; have E8 := Lib.hid e8; have E9 := Lib.hid e9; have E10 := Lib.hid e10; have E11 := Lib.hid e11; have E12 := Lib.hid e12; have E13 := Lib.hid e13; have E14 := Lib.hid e14; have E15 := Lib.hid e15; have E17 := Lib.hid e17; have E18 := Lib.hid e18
      clear hdp e0 e1 e2 e3 e4 e5 e6 e7 e8 e9 e10 e11 e12 e13 e14 e15 e16 e17 e18
      refine wpOp_step rfl (fun K hK => ?_)
      rw [if_pos (by rfl)]
      refine wp_store_row 119 _ _ rfl w.heap.size (evCells 1 (q : Int) v 4 0 0) rfl rfl 119 (evCells 0 0 false 0 0 0) HS.out.ev (mev_size ..) (by first | rfl | simp) (mev_one ..) ?_
      replace HS := Lib.hid (HS.out.stored HLO.out HN.out (evCells 1 (q : Int) v 4 0 0))
      exact hK _ _ ⟨_, _, _, _, _, _, _, _, _, _, _, _, _, _, _, _, _, _, _, rfl, (fun h => E0.out (by simpa [upOn] using h)), (fun h => E1.out (by simpa [upOn] using h)), (fun h => E2.out (by simpa [upOn] using h)), (fun h => E3.out (by simpa [upOn] using h)), (fun h => E4.out (by simpa [upOn] using h)), (fun h => E5.out (by simpa [upOn] using h)), (fun h => E6.out (by simpa [upOn] using h)), (fun h => E7.out (by simpa [upOn] using h)), (fun h => E8.out (by simpa [upOn] using h)), (fun h => E9.out (by simpa [upOn] using h)), (fun h => E10.out (by simpa [upOn] using h)), (fun h => E11.out (by simpa [upOn] using h)), (fun h => E12.out (by simpa [upOn] using h)), (fun h => E13.out (by simpa [upOn] using h)), (fun h => E14.out (by simpa [upOn] using h)), (fun h => E15.out (by simpa [upOn] using h)), (fun _ => rfl), (fun h => E17.out (by simpa [upOn] using h)), (fun h => E18.out (by simpa [upOn] using h)), (fun h => by simp [upOn, l19] at h), (fun _ h => by simp [upOn] at h), (fun _ => HS.out)⟩
  case fin =>
    rintro L a' w' hall ⟨y0, y1, y2, y3, y4, y5, y6, y7, y8, y9, y10, y11, y12, y13, y14, y15, y16, y17, y18, rfl, e0, e1, e2, e3, e4, e5, e6, e7, e8, e9, e10, e11, e12, e13, e14, e15, e16, e17, e18, -, -, hw3⟩
    obtain rfl := e0 (hall 0 (by omega))
    obtain rfl := e1 (hall 1 (by omega))
    obtain rfl := e2 (hall 2 (by omega))
    obtain rfl := e3 (hall 3 (by omega))
    obtain rfl := e4 (hall 4 (by omega))
    obtain rfl := e5 (hall 5 (by omega))
    obtain rfl := e6 (hall 6 (by omega))
    obtain rfl := e7 (hall 7 (by omega))
    obtain rfl := e8 (hall 8 (by omega))
    obtain rfl := e9 (hall 9 (by omega))
    obtain rfl := e10 (hall 10 (by omega))
    obtain rfl := e11 (hall 11 (by omega))
    obtain rfl := e12 (hall 12 (by omega))
    obtain rfl := e13 (hall 13 (by omega))
    obtain rfl := e14 (hall 14 (by omega))
    obtain rfl := e15 (hall 15 (by omega))
    obtain rfl := e16 (hall 16 (by omega))
    obtain rfl := e17 (hall 17 (by omega))
    obtain rfl := e18 (hall 18 (by omega))
    have HS := Lib.hid (hw3 (hall 20 (by omega)))
    clear hw3 hall
    have k0 : w'.cell? ⟨w.heap.size, 0, none⟩ = some (.int .i64 1) := by rw [cell_of_row _ _ _ _ _ _ HS.out.ev]; rfl
    clear e0 e1 e2 e3 e4 e5 e6 e7 e8 e9 e10 e11 e12 e13 e14 e15 e16 e17 e18
    have HSV := Lib.hid (mload_any HS.out.mat q v hq h4)
    go_wp2_with (first
      | (with_reducible refine wpList_load_row rfl 119 _ rfl w.heap.size rfl 119 (evCells 1 (q : Int) v 4 0 0) (0, 0) _ HS.out.ev Tryz.underlying119 rfl (mev_size ..) ?_)
      | (go_at_call 69; (refine HSV.out.mono ?_); rintro e v9 ⟨rfl, hm9, hg9⟩))
    go_end0
    exact ⟨rfl, hm9, HS.out.cl.chg hg9, HS.out.chg.trans hg9⟩
end
end Go.Proofs.YtlgdlaohfkgkfaaGreat
