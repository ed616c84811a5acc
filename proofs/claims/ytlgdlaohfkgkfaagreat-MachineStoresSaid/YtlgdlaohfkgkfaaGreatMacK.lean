/-
  A machine in memory: Copy.
-/
import Derived.Test.YtlgdlaohfkgkfaaGreatMacJ
namespace Go.Proofs.YtlgdlaohfkgkfaaGreat
open Go.ChangeShapes Go.WideShapes Go.ChangeAt Go.RowKit
set_option linter.unusedVariables false
set_option linter.unusedSimpArgs false
theorem mach_size (p : Mp) (m : Mc) : (Tryz.prog.info? 80).map (·.size) = some (mcL p m).length := by kernel_rfl
theorem mach_size' (p : Mp) (m : Mc) : (Tryz.prog.info? 80).map (·.size) = some (mcL p m).toArray.size := by kernel_rfl
theorem mach_one (p : Mp) (m : Mc) (q : Nat) (h : p.st = .pointer (some ⟨q, 0, none⟩)) : (mcL p m).toArray.all (·.oneCell') = true := by
  unfold mcL
  rw [h]
  simp [cpuCells, Value.oneCell']
theorem NewS.next {w V : World} {q mb : Nat} (h : NewS w q mb) (hV : Below w.heap.size w V) : NewS V q mb := by
  have qlt := World.block_lt_of_cell? w _ h.c0
  have mlt : mb < w.heap.size := (Array.getElem?_eq_some_iff.1 h.mp).1
  have e : ∀ i, V.cell? ⟨q, i, none⟩ = w.cell? ⟨q, i, none⟩ := fun i => World.cell?_of_block (hV.block q qlt)
  exact ⟨by rw [e]; exact h.c0, by rw [e]; exact h.c1, by rw [e]; exact h.c2, by rw [e]; exact h.c3, by rw [e]; exact h.c4, by rw [hV.block mb mlt]; exact h.mp⟩
theorem MemAt.set {V : World} {b g cap n : Nat} {f : Nat → Int} (h : MemAt V b g cap n f) (hne : b ≠ g) (o : Nat) (ho : o ≠ 22) (u : Value) : MemAt (V.setCell ⟨b, o, none⟩ u) b g cap n f :=
  ⟨by rw [size_setCell]; exact h.lb, by rw [size_setCell]; exact h.lg, by rw [World.cell?_setCell_other _ _ _ _ (fun e => ho (by injection e with _ e2 _))]; exact h.mem, fun i hi => by rw [World.cell?_of_block (heap_setCell' _ _ _ _ _ (Ne.symm hne))]; exact h.fm i hi, h.n1⟩
def zeroM : Array Value := (cpuCells mcpu0) ++ #[.slice none 0 0, .int .u32 0, .int .i64 0, .int .u32 0, .pointer none, .map none]
set_option maxHeartbeats 8000000 in
set_option maxRecDepth 100000 in
theorem copy_any {w : World} {B : Nat} {p : Mp} {m : Mc} {q mb : Nat} (h : MAt w B p m) (hc : ClAt w B p) (hst : p.st = .pointer (some ⟨q, 0, none⟩)) (hs : NewS w q mb) :
    Calls Tryz.prog 17 #[.pointer (some ⟨p.b, 0, none⟩)] w fun e w' => ∃ b g cap, e = .returned (.pointer (some ⟨b, 0, none⟩)) ∧ w.heap.size ≤ b ∧ w.heap.size ≤ g ∧ MemAt w' b g cap m.n m.f ∧ Below w.heap.size w w' := by
  have HI := Lib.hid (bis_any h.memAt)
  have HH := Lib.hid h
  have HC := Lib.hid h.cells
  have HL := Lib.hid (mach_size p m)
  go_enter Tryz.func17, Tryz.ntmps17
  go_upto_region 4 with (first
    | (go_at_call 35; (refine HI.out.mono ?_); rintro e w' ⟨rfl, rfl⟩)
    | (with_reducible refine wpList_load_mid rfl 80 _ rfl p.b 0 rfl (mcL p m) _ HC.out Tryz.underlying80 rfl HL.out ?_)
    | (with_reducible refine wpList_store_row rfl 80 _ _ rfl w.heap.size (mcL p m).toArray rfl rfl 80 zeroM (heap_alloc_last w _) (mach_size' _ _) rfl (mach_one p m q hst) ?_; rw [World.setRow_alloc_new]))
  have hb1 := mbelow1 w (.cells (mcL p m).toArray 80)
  have hc1 := heap_alloc_last w (.cells (mcL p m).toArray 80)
  have hs1 : (w.alloc (.cells (mcL p m).toArray 80)).heap.size = w.heap.size + 1 := by simp
  generalize w.alloc (.cells (mcL p m).toArray 80) = V1 at *
  have k22 := (HH.out.next hb1).mem
  have HCL := Lib.hid (bclone_any (n := m.n) (f := m.f) (HH.out.next hb1).fm (HH.out.next hb1).lg (by have := HH.out.n0; omega) HH.out.n1)
  go_upto_region 5 with (go_at_call 36; (refine HCL.out.mono ?_); rintro e v2 ⟨g', cap, rfl, hg1, hg2, hg3, hb2⟩; have hc2 := (hb2.block w.heap.size (by omega)).trans hc1; have k2 := cell_at hc2 22; have z2 := free_at hc2 22; have k3 : v2.cell? ⟨w.heap.size, 22, none⟩ = some (.slice (some ⟨p.g, 0, none⟩) m.n m.n) := k2.trans rfl; clear k2)
  have t3 := (Turn.refl hc2).setCell 22 (.slice (some ⟨g', 0, none⟩) m.n cap)
  have hb3 : Below w.heap.size w (v2.setCell ⟨w.heap.size, 22, none⟩ (.slice (some ⟨g', 0, none⟩) m.n cap)) := (hb1.trans (hb2.mono hb1.size)).trans (t3.below (B := w.heap.size) (Nat.le_refl _) (by have := hb2.size; omega))
  have hm3 : MemAt (v2.setCell ⟨w.heap.size, 22, none⟩ (.slice (some ⟨g', 0, none⟩) m.n cap)) w.heap.size g' cap m.n m.f :=
    ⟨by rw [size_setCell]; have := hb2.size; omega, by rw [size_setCell]; exact hg2, World.cell?_setCell_same _ _ _ k3, fun i hi => by rw [World.cell?_of_block (heap_setCell' _ _ _ _ _ (by show g' ≠ w.heap.size; omega))]; exact hg3 i hi, HH.out.n1⟩
  have hc3 := t3.at_
  have hne : w.heap.size ≠ g' := by omega
  have HM3 := Lib.hid hm3
  have hg0 : w.heap.size ≤ g' := by omega
  clear t3 hm3 k22 k3 z2 hc2 hg1 hg2 hg3 hb2 hc1 hs1 hb1 HCL
  generalize v2.setCell ⟨w.heap.size, 22, none⟩ (.slice (some ⟨g', 0, none⟩) m.n cap) = V3 at *
  have k26 : V3.cell? ⟨p.b, 26, none⟩ = some (.pointer (some ⟨q, 0, none⟩)) := by rw [← hst]; exact (HH.out.next hb3).st
  have HSC := Lib.hid (stcopy_any (hs.next hb3))
  have hlt3 := HM3.out.lb
  go_upto_region 6 with (go_at_call 37; (refine HSC.out.mono ?_); rintro e v4 ⟨q', rfl, hb4⟩; have hc4 := (hb4.block w.heap.size hlt3).trans hc3; have k4 : v4.cell? ⟨w.heap.size, 26, none⟩ = some p.st := (cell_at hc4 26).trans rfl; have z4 := free_at hc4 26)
  have hb5 : Below w.heap.size w (v4.setCell ⟨w.heap.size, 26, none⟩ (.pointer (some ⟨q', 0, none⟩))) := (hb3.trans (hb4.mono hb3.size)).trans (((Turn.refl hc4).setCell 26 _).below (B := w.heap.size) (Nat.le_refl _) (by have := hb4.size; have := hb3.size; omega))
  have hm5 := (HM3.out.next hb4).set hne 26 (by omega) (.pointer (some ⟨q', 0, none⟩))
  have hc5 := ((Turn.refl hc4).setCell 26 (.pointer (some ⟨q', 0, none⟩))).at_
  have HM5 := Lib.hid hm5
  clear hm5 k26 k4 z4 hc4 hb4 hc3 hb3 HM3 HSC hlt3
  generalize v4.setCell ⟨w.heap.size, 26, none⟩ (.pointer (some ⟨q', 0, none⟩)) = V5 at *
  have k27 : V5.cell? ⟨p.b, 27, none⟩ = some (.map (some p.cl)) := (HH.out.next hb5).cl
  obtain ⟨es, clock, hbm, -⟩ := hc.own
  have hbm5 := (hb5.block p.cl ((Array.getElem?_eq_some_iff.1 hbm).1)).trans hbm
  have HMC := Lib.hid (mclone_any p.cl es clock V5 hbm5)
  have hlt5 := HM5.out.lb
  have hb6 := mbelow1 V5 (.map es clock)
  have hc6 := (hb6.block w.heap.size hlt5).trans hc5
  have k6 : (V5.alloc (.map es clock)).cell? ⟨w.heap.size, 27, none⟩ = some (.map (some p.cl)) := (cell_at hc6 27).trans rfl
  have z6 := free_at hc6 27
  have hm6 := (HM5.out.next hb6).set hne 27 (by omega) (.map (some V5.heap.size))
  have hb7 : Below w.heap.size w ((V5.alloc (.map es clock)).setCell ⟨w.heap.size, 27, none⟩ (.map (some V5.heap.size))) := (hb5.trans (hb6.mono hb5.size)).trans (((Turn.refl hc6).setCell 27 _).below (B := w.heap.size) (Nat.le_refl _) (by have := hb6.size; have := hb5.size; omega))
  have e6 : (V5.alloc (.map es clock)).setCell ⟨w.heap.size, 27, none⟩ (.map (some V5.heap.size)) = (V5.setCell ⟨w.heap.size, 27, none⟩ (.map (some V5.heap.size))).alloc (.map es clock) := World.setCell_alloc_past _ _ _ _ hlt5
  rw [e6] at hm6 hb7
  clear e6
  have HM6 := Lib.hid hm6
  have HB7 := Lib.hid hb7
  clear hm6 hb7 hbm hbm5
  go_wp2_with (go_at_call 38; (refine HMC.out.mono ?_); rintro e v6 ⟨rfl, rfl⟩)
  go_ret
  exact ⟨_, g', cap, rfl, Nat.le_refl _, hg0, HM6.out, HB7.out⟩
end Go.Proofs.YtlgdlaohfkgkfaaGreat
