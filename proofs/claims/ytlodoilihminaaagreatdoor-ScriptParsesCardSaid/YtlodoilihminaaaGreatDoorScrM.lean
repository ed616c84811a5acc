/-
  ref25.SameAct of an act beside a copy of it: they are the same.
-/
import Derived.Test.YtlodoilihminaaaGreatDoorScrL
import Derived.Deep.QuietTactic
namespace Go.Proofs.YtlodoilihminaaaGreatDoor
open Go.ChangeShapes Go.WideShapes Go.ChangeAt Go.RowKit
set_option linter.unusedVariables false
set_option linter.unusedSimpArgs false
set_option maxHeartbeats 4000000 in
set_option maxRecDepth 100000 in
theorem rsame_same (w : World) (a : Ac) (bA : Option Addr) (bn bc : Nat) (nA : Option Addr) (nn nc : Nat) (h : ActAt w a bA bn bc nA nn nc) (bA' : Option Addr) (bn' bc' : Nat) (nA' : Option Addr) (nn' nc' : Nat) (h' : ActAt w a bA' bn' bc' nA' nn' nc') :
    Calls Tryz.prog 10 #[.agg (actC a.kind a.name bA bn bc nA nn nc a.mem a.fuel), .agg (actC a.kind a.name bA' bn' bc' nA' nn' nc' a.mem a.fuel)] w fun e w' => e = .returned (.bool true) ∧ Below w.heap.size w w' := by
  have hn1 := h.hnr.1
  have hn2 := h'.hnr.1
  have hnn : nn' = nn := by omega
  subst hnn
  have hmx := h.hnn
  unfold maxLen at hmx
  have HA := Lib.hid h
  have HA' := Lib.hid h'
  clear h h' hn1 hn2
  unfold actC at *
  obtain ⟨kd, hkd⟩ : ∃ kd, kd = a.kind := ⟨_, rfl⟩
  rw [← hkd]
  clear hkd
  go_enter Tryz.func10, Tryz.ntmps10
  go_upto_region 1 with fail
  have hq1 := heap_alloc_new w (.cells #[.int .i64 kd, .string (S a.name), .slice bA bn bc, .slice nA nn' nc, .int .i64 a.mem, .int .i64 a.fuel] 27)
  have hs1 : (w.alloc (.cells #[.int .i64 kd, .string (S a.name), .slice bA bn bc, .slice nA nn' nc, .int .i64 a.mem, .int .i64 a.fuel] 27)).heap.size = w.heap.size + 1 := by simp
  have hb1 := sbelow1 w (.cells #[.int .i64 kd, .string (S a.name), .slice bA bn bc, .slice nA nn' nc, .int .i64 a.mem, .int .i64 a.fuel] 27)
  generalize w.alloc (.cells #[.int .i64 kd, .string (S a.name), .slice bA bn bc, .slice nA nn' nc, .int .i64 a.mem, .int .i64 a.fuel] 27) = W1 at hq1 hs1 hb1 ⊢
  have hq2 := heap_alloc_new W1 (.cells #[.int .i64 kd, .string (S a.name), .slice bA' bn' bc', .slice nA' nn' nc', .int .i64 a.mem, .int .i64 a.fuel] 27)
  have hb2 := hb1.trans ((sbelow1 W1 (.cells #[.int .i64 kd, .string (S a.name), .slice bA' bn' bc', .slice nA' nn' nc', .int .i64 a.mem, .int .i64 a.fuel] 27)).mono hb1.size)
  have hq3 := (Below.heap_alloc W1 (.cells #[.int .i64 kd, .string (S a.name), .slice bA' bn' bc', .slice nA' nn' nc', .int .i64 a.mem, .int .i64 a.fuel] 27) _ (Array.getElem?_eq_some_iff.1 hq1).1).trans hq1
  generalize W1.alloc (.cells #[.int .i64 kd, .string (S a.name), .slice bA' bn' bc', .slice nA' nn' nc', .int .i64 a.mem, .int .i64 a.fuel] 27) = W2 at hq2 hb2 hq3 ⊢
  rw [hs1] at hq2
  have k0 : W2.cell? ⟨w.heap.size, 0, none⟩ = some (.int .i64 kd) := by rw [World.cell?, hq3]; rfl
  have k1 : W2.cell? ⟨w.heap.size, 1, none⟩ = some (.string (S a.name)) := by rw [World.cell?, hq3]; rfl
  have k2 : W2.cell? ⟨w.heap.size, 2, none⟩ = some (.slice bA bn bc) := by rw [World.cell?, hq3]; rfl
  have k3 : W2.cell? ⟨w.heap.size, 3, none⟩ = some (.slice nA nn' nc) := by rw [World.cell?, hq3]; rfl
  have k4 : W2.cell? ⟨w.heap.size, 4, none⟩ = some (.int .i64 a.mem) := by rw [World.cell?, hq3]; rfl
  have k5 : W2.cell? ⟨w.heap.size, 5, none⟩ = some (.int .i64 a.fuel) := by rw [World.cell?, hq3]; rfl
  have j0 : W2.cell? ⟨w.heap.size + 1, 0, none⟩ = some (.int .i64 kd) := by rw [World.cell?, hq2]; rfl
  have j1 : W2.cell? ⟨w.heap.size + 1, 1, none⟩ = some (.string (S a.name)) := by rw [World.cell?, hq2]; rfl
  have j2 : W2.cell? ⟨w.heap.size + 1, 2, none⟩ = some (.slice bA' bn' bc') := by rw [World.cell?, hq2]; rfl
  have j3 : W2.cell? ⟨w.heap.size + 1, 3, none⟩ = some (.slice nA' nn' nc') := by rw [World.cell?, hq2]; rfl
  have j4 : W2.cell? ⟨w.heap.size + 1, 4, none⟩ = some (.int .i64 a.mem) := by rw [World.cell?, hq2]; rfl
  have j5 : W2.cell? ⟨w.heap.size + 1, 5, none⟩ = some (.int .i64 a.fuel) := by rw [World.cell?, hq2]; rfl
  have HB := Lib.hid hb2
  have HX := Lib.hid (HA.out.below hb2)
  have HX' := Lib.hid (HA'.out.below hb2)
  have hc1 := conv_rd HX.out.hbr bc
  have hc2 := conv_rd HX'.out.hbr bc'
  clear hq1 hs1 hb1 hq2 hb2 hq3 HA HA'
  generalize S a.name = nm at *
  generalize strOf a.bytes = bs at *
  generalize a.mem = mm at *
  generalize a.fuel = ff at *
  go_wp2_with fail
  have HK3 := Lib.hid k3
  have HJ3 := Lib.hid j3
  have HLB := Lib.hid (⟨World.block_lt_of_cell? _ _ k3, World.block_lt_of_cell? _ _ j3⟩ : _ ∧ _)
  clear k0 k1 k2 k4 k5 j0 j1 j2 j4 j5 hc1 hc2 k3 j3
  go_loopw [5] (fun iv wr => ∃ k : Nat, k ≤ nn' ∧ iv = .int .i64 (k : Int) ∧ Hid (Below W2.heap.size W2 wr)) (fun iv _ => nn' - (intOf iv).toNat)
  case atStart => exact ⟨0, Nat.zero_le _, rfl, Lib.hid (Below.refl _ _)⟩
  case round =>
    obtain ⟨k, hk, rfl, HBR⟩ := hrel
    have k3 : wr.cell? ⟨w.heap.size, 3, none⟩ = some (.slice nA nn' nc) := (HBR.out.cell HLB.out.1).trans HK3.out
    have j3 : wr.cell? ⟨w.heap.size + 1, 3, none⟩ = some (.slice nA' nn' nc') := (HBR.out.cell HLB.out.2).trans HJ3.out
    by_cases hlt : k < nn'
    · obtain ⟨x, l, rfl, hx, hl, hm2, hc⟩ := (HX.out.below HBR.out).hnr.at hlt
      obtain ⟨x', l', rfl, hx', hl', hm2', hc'⟩ := (HX'.out.below HBR.out).hnr.at hlt
      have e : l' = l := by rw [hl] at hl'; exact (Option.some.inj hl').symm
      subst e
      clear hl hl' hm2 hm2' hx hx'
      generalize S l' = nl at *
      go_wp2_with fail
      go_quiet (fail)
      go_wp2_with fail
      go_roundw
      case rel => exact ⟨k + 1, by omega, by go_num, Lib.hid (HBR.out.trans ⟨rfl, rfl, rfl, Nat.le_refl _, fun _ _ => rfl⟩)⟩
      case measure => simp [intOf]; omega
    · have hjn : k = nn' := by omega
      go_wp2_with fail
      go_ret
      exact ⟨rfl, HB.out.trans (HBR.out.mono HB.out.size)⟩
end Go.Proofs.YtlodoilihminaaaGreatDoor
