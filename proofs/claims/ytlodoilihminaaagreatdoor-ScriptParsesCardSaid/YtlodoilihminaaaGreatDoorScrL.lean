/-
  ref25.Words, ActText.
-/
import Derived.Test.YtlodoilihminaaaGreatDoorScrK
import Derived.Deep.RegionHeld3
import Derived.BigQuiet
namespace Go.Proofs.YtlodoilihminaaaGreatDoor
open Go.ChangeShapes Go.WideShapes Go.ChangeAt Go.RowKit
set_option linter.unusedVariables false
set_option linter.unusedSimpArgs false
theorem rwords_any (w : World) : Calls Tryz.prog 30 #[] w fun e w' => e = .returned (.slice (some ⟨w.heap.size, 0, none⟩) 7 7) ∧ w' = w.alloc (.cells (actWs.map fun l => Value.string (S l)).toArray 9) := by
  go_enter Tryz.func30, Tryz.ntmps30
  go_wp2_with fail
  go_ret
  exact ⟨rfl, rfl⟩
theorem ret_S {l m : List UInt8} (h : l = m) : Ending.returned (.string (S l)) = Ending.returned (.string (S m)) := by rw [h]
theorem S_app (l r : List UInt8) : S (l ++ r) = S l ++ S r := by
  apply ByteArray.ext
  simp [S, ByteArray.data_append]
theorem ret_B {x : ByteArray} {m : List UInt8} (h : x = S m) : Ending.returned (.string x) = Ending.returned (.string (S m)) := by rw [h]
set_option maxHeartbeats 4000000 in
set_option maxRecDepth 100000 in
theorem ractText_any (w : World) (a : Ac) (bA : Option Addr) (bn bc : Nat) (nA : Option Addr) (nn nc : Nat) (h : ActAt w a bA bn bc nA nn nc) (hm : a.may = true) (hT : Tab w) :
    Calls Tryz.prog 34 #[.agg (actC a.kind a.name bA bn bc nA nn nc a.mem a.fuel)] w fun e w' => e = .returned (.string (S a.txt)) ∧ Below w.heap.size w w' := by
  have HA := Lib.hid h
  have HMM := Lib.hid hm
  have HT := Lib.hid hT
  have hki := may_kind hm
  obtain ⟨kd, hkd⟩ : ∃ kd, kd = a.kind := ⟨_, rfl⟩
  rw [← hkd] at hki ⊢
  have HKD := Lib.hid hkd
  clear h hm hT hkd
  unfold actC at *
  have hq0 := heap_alloc_new w (.cells #[.int .i64 kd, .string (S a.name), .slice bA bn bc, .slice nA nn nc, .int .i64 a.mem, .int .i64 a.fuel] 27)
  have HB1 := Lib.hid (sbelow1 w (.cells #[.int .i64 kd, .string (S a.name), .slice bA bn bc, .slice nA nn nc, .int .i64 a.mem, .int .i64 a.fuel] 27))
  go_enter Tryz.func34, Tryz.ntmps34
  go_upto_region 1 with fail
  generalize w.alloc (.cells #[.int .i64 kd, .string (S a.name), .slice bA bn bc, .slice nA nn nc, .int .i64 a.mem, .int .i64 a.fuel] 27) = W1 at hq0 HB1 ⊢
  have HQ := Lib.hid hq0
  have c0 : W1.drew.cell? ⟨w.heap.size, 0, none⟩ = some (.int .i64 kd) := by show W1.cell? _ = _; rw [World.cell?, hq0]; rfl
  clear hq0
  have HW1 : Hid (∀ V : World, Below W1.heap.size W1 V → Calls Tryz.prog 30 #[] V fun e w' => ∃ g, e = .returned (.slice (some ⟨g, 0, none⟩) 7 7) ∧ Below W1.heap.size W1 w' ∧ w'.cell? ⟨w.heap.size, 0, none⟩ = some (.int .i64 kd) ∧ ∀ j, j < 7 → w'.cell? ⟨g, j, none⟩ = some (.string (S (actWs.getD j [])))) := Lib.hid fun V hV => by
    refine (rwords_any V).mono ?_
    rintro e w' ⟨rfl, rfl⟩
    have hb : Below W1.heap.size W1 (V.alloc (.cells (actWs.map fun l => Value.string (S l)).toArray 9)) := hV.alloc hV.size _
    exact ⟨_, rfl, hb, (hb.cell (Array.getElem?_eq_some_iff.1 HQ.out).1).trans c0, fun j hj => acts_cell V (Below.refl _ _) j hj⟩
  have hr1 : Below W1.heap.size W1 W1.drew := (Below.refl _ _).drew
  rcases hki with rfl | rfl | rfl | rfl | rfl | rfl | rfl
  · obtain ⟨Post, hin, hout⟩ : ∃ Post : Act → World → Prop, Hid (∀ a' W', (∃ g, a' = { tmps := List.toArray ((.agg #[.int .i64 1, .string (S a.name), .slice bA bn bc, .slice nA nn nc, .int .i64 a.mem, .int .i64 a.fuel]) :: (.pointer (some ⟨w.heap.size, 0, none⟩)) :: (.string ⟨#[]⟩) :: (.string (S (actWs.getD 0 []))) :: undef :: (.slice (some ⟨g, 0, none⟩) 7 7) :: (.pointer (some ⟨w.heap.size, 0, none⟩)) :: (.int .i64 1) :: (.int .i64 0) :: (.pointer (some ⟨g, 0, none⟩)) :: (.string (S (actWs.getD 0 []))) :: undef :: undef :: undef :: undef :: undef :: undef :: undef :: undef :: undef :: undef :: undef :: undef :: undef :: undef :: undef :: undef :: undef :: undef :: undef :: undef :: undef :: undef :: undef :: undef :: undef :: undef :: undef :: undef :: undef :: undef :: undef :: undef :: undef :: undef :: undef :: undef :: undef :: undef :: undef :: undef :: undef :: undef :: undef :: undef :: undef :: undef :: undef :: undef :: undef :: undef :: undef :: undef :: undef :: undef :: undef :: undef :: undef :: undef :: undef :: undef :: undef :: undef :: undef :: undef :: []), defers := [] } ∧ Below W1.heap.size W1 W') → Post a' W') ∧ Hid (∀ a' W', Post a' W' → (∃ g, a' = { tmps := List.toArray ((.agg #[.int .i64 1, .string (S a.name), .slice bA bn bc, .slice nA nn nc, .int .i64 a.mem, .int .i64 a.fuel]) :: (.pointer (some ⟨w.heap.size, 0, none⟩)) :: (.string ⟨#[]⟩) :: (.string (S (actWs.getD 0 []))) :: undef :: (.slice (some ⟨g, 0, none⟩) 7 7) :: (.pointer (some ⟨w.heap.size, 0, none⟩)) :: (.int .i64 1) :: (.int .i64 0) :: (.pointer (some ⟨g, 0, none⟩)) :: (.string (S (actWs.getD 0 []))) :: undef :: undef :: undef :: undef :: undef :: undef :: undef :: undef :: undef :: undef :: undef :: undef :: undef :: undef :: undef :: undef :: undef :: undef :: undef :: undef :: undef :: undef :: undef :: undef :: undef :: undef :: undef :: undef :: undef :: undef :: undef :: undef :: undef :: undef :: undef :: undef :: undef :: undef :: undef :: undef :: undef :: undef :: undef :: undef :: undef :: undef :: undef :: undef :: undef :: undef :: undef :: undef :: undef :: undef :: undef :: undef :: undef :: undef :: undef :: undef :: undef :: undef :: undef :: undef :: []), defers := [] } ∧ Below W1.heap.size W1 W')) := ⟨_, Lib.hid fun _ _ h => h, Lib.hid fun _ _ h => h⟩
    refine Code.wp_mono (Q := Exit.then Post (fun _ _ _ => False)) ?_ ?_
    rotate_left
    · as_aux_lemma =>
        refine wp_region_inv' 7 rfl (fun L a' w' => ∃ y0 y1 y2 y3 y4 y5 y6 : Value, a' = { tmps := List.toArray ((.agg #[.int .i64 1, .string (S a.name), .slice bA bn bc, .slice nA nn nc, .int .i64 a.mem, .int .i64 a.fuel]) :: (.pointer (some ⟨w.heap.size, 0, none⟩)) :: (.string ⟨#[]⟩) :: y6 :: undef :: y0 :: y1 :: y2 :: y3 :: y4 :: y5 :: undef :: undef :: undef :: undef :: undef :: undef :: undef :: undef :: undef :: undef :: undef :: undef :: undef :: undef :: undef :: undef :: undef :: undef :: undef :: undef :: undef :: undef :: undef :: undef :: undef :: undef :: undef :: undef :: undef :: undef :: undef :: undef :: undef :: undef :: undef :: undef :: undef :: undef :: undef :: undef :: undef :: undef :: undef :: undef :: undef :: undef :: undef :: undef :: undef :: undef :: undef :: undef :: undef :: undef :: undef :: undef :: undef :: undef :: undef :: undef :: undef :: undef :: undef :: undef :: []), defers := [] } ∧ (L 0 = true → ∃ g, y0 = .slice (some ⟨g, 0, none⟩) 7 7) ∧ (L 1 = true → y1 = .pointer (some ⟨w.heap.size, 0, none⟩)) ∧ (L 2 = true → y2 = .int .i64 1) ∧ (L 3 = true → y3 = .int .i64 0) ∧ (L 4 = true → ∃ g, y0 = .slice (some ⟨g, 0, none⟩) 7 7 ∧ y4 = .pointer (some ⟨g, 0, none⟩)) ∧ (L 5 = true → y5 = .string (S (actWs.getD 0 []))) ∧ (L 6 = true → y6 = .string (S (actWs.getD 0 []))) ∧ Below W1.heap.size W1 w' ∧ w'.cell? ⟨w.heap.size, 0, none⟩ = some (.int .i64 1) ∧ (L 0 = true → ∀ g, y0 = .slice (some ⟨g, 0, none⟩) 7 7 → ∀ j, j < 7 → w'.cell? ⟨g, j, none⟩ = some (.string (S (actWs.getD j []))))) (by kernel_rfl) (by kernel_rfl) ?h0 ?step ?fin
        case h0 => exact ⟨undef, undef, undef, undef, undef, undef, undef, rfl, (fun e => by simp at e), (fun e => by simp at e), (fun e => by simp at e), (fun e => by simp at e), (fun e => by simp at e), (fun e => by simp at e), (fun e => by simp at e), hr1, c0, fun e => by simp at e⟩
        case step =>
          rintro i hi L a' w' hLi hcl hdp ⟨y0, y1, y2, y3, y4, y5, y6, rfl, e0, e1, e2, e3, e4, e5, e6, hW, hC, hJ⟩
          have hi2 : i = 0 ∨ i = 1 ∨ i = 2 ∨ i = 3 ∨ i = 4 ∨ i = 5 ∨ i = 6 := by omega
          rcases hi2 with rfl | rfl | rfl | rfl | rfl | rfl | rfl
          · have HW := Lib.hid hW; have HC := Lib.hid hC; have HJ := Lib.hid hJ
            have l4 : L 4 = false := by
              cases h : L 4
              · rfl
              · exact absurd (hcl 4 0 h (by kernel_rfl)) (by rw [hLi]; decide)
            have E1 := Lib.hid e1; have E2 := Lib.hid e2; have E3 := Lib.hid e3; have E4 := Lib.hid e4; have E5 := Lib.hid e5; have E6 := Lib.hid e6
            clear hcl hdp hW hC hJ e0 e1 e2 e3 e4 e5 e6
            refine wpOp_step rfl (fun K hK => ?_)
            go_simp
            refine (HW1.out _ HW.out).mono ?_
            rintro e v1 ⟨g, rfl, hb1, hc1, hj1⟩
            exact hK _ _ ⟨_, _, _, _, _, _, _, rfl, (fun _ => ⟨_, rfl⟩), (fun h => E1.out (by simpa [upOn] using h)), (fun h => E2.out (by simpa [upOn] using h)), (fun h => E3.out (by simpa [upOn] using h)), (fun h => by simp [upOn, l4] at h), (fun h => E5.out (by simpa [upOn] using h)), (fun h => E6.out (by simpa [upOn] using h)), hb1, hc1, (fun _ g' hg j hj => by cases hg; exact hj1 j hj)⟩
          · have HW := Lib.hid hW; have HC := Lib.hid hC; have HJ := Lib.hid hJ
            have E0 := Lib.hid e0; have E2 := Lib.hid e2; have E3 := Lib.hid e3; have E4 := Lib.hid e4; have E5 := Lib.hid e5; have E6 := Lib.hid e6
            clear hcl hdp hW hC hJ e0 e1 e2 e3 e4 e5 e6
            refine wpOp_step rfl (fun K hK => ?_)
            go_simp
            exact hK _ _ ⟨_, _, _, _, _, _, _, rfl, (fun h => E0.out (by simpa [upOn] using h)), (fun _ => rfl), (fun h => E2.out (by simpa [upOn] using h)), (fun h => E3.out (by simpa [upOn] using h)), (fun h => E4.out (by simpa [upOn] using h)), (fun h => E5.out (by simpa [upOn] using h)), (fun h => E6.out (by simpa [upOn] using h)), HW.out, HC.out, (fun h g hg j hj => HJ.out (by simpa [upOn] using h) g hg j hj)⟩
          · have HW := Lib.hid hW; have HC := Lib.hid hC; have HJ := Lib.hid hJ
            obtain rfl := e1 (hdp 1 (by kernel_rfl))
            have E0 := Lib.hid e0; have E3 := Lib.hid e3; have E4 := Lib.hid e4; have E5 := Lib.hid e5; have E6 := Lib.hid e6
            clear hcl hdp hW hC hJ e0 e1 e2 e3 e4 e5 e6
            refine wpOp_step rfl (fun K hK => ?_)
            have kc := HC.out
            go_simp
            exact hK _ _ ⟨_, _, _, _, _, _, _, rfl, (fun h => E0.out (by simpa [upOn] using h)), (fun _ => rfl), (fun _ => rfl), (fun h => E3.out (by simpa [upOn] using h)), (fun h => E4.out (by simpa [upOn] using h)), (fun h => E5.out (by simpa [upOn] using h)), (fun h => E6.out (by simpa [upOn] using h)), HW.out, HC.out, (fun h g hg j hj => HJ.out (by simpa [upOn] using h) g hg j hj)⟩
          · have HW := Lib.hid hW; have HC := Lib.hid hC; have HJ := Lib.hid hJ
            obtain rfl := e2 (hdp 2 (by kernel_rfl))
            have E0 := Lib.hid e0; have E1 := Lib.hid e1; have E4 := Lib.hid e4; have E5 := Lib.hid e5; have E6 := Lib.hid e6
            clear hcl hdp hW hC hJ e0 e1 e2 e3 e4 e5 e6
            refine wpOp_step rfl (fun K hK => ?_)
            go_simp
            exact hK _ _ ⟨_, _, _, _, _, _, _, rfl, (fun h => E0.out (by simpa [upOn] using h)), (fun h => E1.out (by simpa [upOn] using h)), (fun _ => rfl), (fun _ => rfl), (fun h => E4.out (by simpa [upOn] using h)), (fun h => E5.out (by simpa [upOn] using h)), (fun h => E6.out (by simpa [upOn] using h)), HW.out, HC.out, (fun h g hg j hj => HJ.out (by simpa [upOn] using h) g hg j hj)⟩
          · have HW := Lib.hid hW; have HC := Lib.hid hC; have HJ := Lib.hid hJ
            obtain ⟨g, rfl⟩ := e0 (hdp 0 (by kernel_rfl))
            obtain rfl := e3 (hdp 3 (by kernel_rfl))
            have E1 := Lib.hid e1; have E2 := Lib.hid e2; have E5 := Lib.hid e5; have E6 := Lib.hid e6
            clear hcl hdp hW hC hJ e0 e1 e2 e3 e4 e5 e6
            refine wpOp_step rfl (fun K hK => ?_)
            go_simp
            exact hK _ _ ⟨_, _, _, _, _, _, _, rfl, (fun _ => ⟨_, rfl⟩), (fun h => E1.out (by simpa [upOn] using h)), (fun h => E2.out (by simpa [upOn] using h)), (fun _ => rfl), (fun _ => ⟨_, rfl, rfl⟩), (fun h => E5.out (by simpa [upOn] using h)), (fun h => E6.out (by simpa [upOn] using h)), HW.out, HC.out, (fun h g hg j hj => HJ.out (by simpa [upOn] using h) g hg j hj)⟩
          · have HW := Lib.hid hW; have HC := Lib.hid hC; have HJ := Lib.hid hJ
            have l0 : L 0 = true := hcl 4 0 (hdp 4 (by kernel_rfl)) (by kernel_rfl)
            obtain ⟨g, rfl, rfl⟩ := e4 (hdp 4 (by kernel_rfl))
            have E0 := Lib.hid e0; have E1 := Lib.hid e1; have E2 := Lib.hid e2; have E3 := Lib.hid e3; have E6 := Lib.hid e6
            clear hcl hdp hW hC hJ e0 e1 e2 e3 e4 e5 e6
            refine wpOp_step rfl (fun K hK => ?_)
            have kj := HJ.out l0 g rfl 0 (by omega)
            go_simp
            exact hK _ _ ⟨_, _, _, _, _, _, _, rfl, (fun h => E0.out (by simpa [upOn] using h)), (fun h => E1.out (by simpa [upOn] using h)), (fun h => E2.out (by simpa [upOn] using h)), (fun h => E3.out (by simpa [upOn] using h)), (fun _ => ⟨_, rfl, rfl⟩), (fun _ => rfl), (fun h => E6.out (by simpa [upOn] using h)), HW.out, HC.out, (fun h g hg j hj => HJ.out (by simpa [upOn] using h) g hg j hj)⟩
          · have HW := Lib.hid hW; have HC := Lib.hid hC; have HJ := Lib.hid hJ
            obtain rfl := e5 (hdp 5 (by kernel_rfl))
            have E0 := Lib.hid e0; have E1 := Lib.hid e1; have E2 := Lib.hid e2; have E3 := Lib.hid e3; have E4 := Lib.hid e4
            clear hcl hdp hW hC hJ e0 e1 e2 e3 e4 e5 e6
            refine wpOp_step rfl (fun K hK => ?_)
            go_simp
            exact hK _ _ ⟨_, _, _, _, _, _, _, rfl, (fun h => E0.out (by simpa [upOn] using h)), (fun h => E1.out (by simpa [upOn] using h)), (fun h => E2.out (by simpa [upOn] using h)), (fun h => E3.out (by simpa [upOn] using h)), (fun h => E4.out (by simpa [upOn] using h)), (fun _ => rfl), (fun _ => rfl), HW.out, HC.out, (fun h g hg j hj => HJ.out (by simpa [upOn] using h) g hg j hj)⟩
        case fin =>
          rintro L a' w' hall ⟨y0, y1, y2, y3, y4, y5, y6, rfl, e0, e1, e2, e3, e4, e5, e6, hW, -, -⟩
          obtain ⟨g, rfl, rfl⟩ := e4 (hall 4 (by omega))
          obtain rfl := e1 (hall 1 (by omega))
          obtain rfl := e2 (hall 2 (by omega))
          obtain rfl := e3 (hall 3 (by omega))
          obtain rfl := e5 (hall 5 (by omega))
          obtain rfl := e6 (hall 6 (by omega))
          exact hin.out _ _ ⟨g, rfl, hW⟩
    · intro e a' W' hE0
      have hen : e = Exit.normal := by cases e <;> first | rfl | exact hE0.elim
      subst hen
      obtain ⟨g, rfl, hb⟩ := hout.out _ _ hE0
      have HB2 := Lib.hid (HB1.out.trans (hb.mono HB1.out.size))
      have hq2 := (hb.block _ (Array.getElem?_eq_some_iff.1 HQ.out).1).trans HQ.out
      have k0 : W'.cell? ⟨w.heap.size, 0, none⟩ = some (.int .i64 1) := by rw [World.cell?, hq2]; rfl
      have k1 : W'.cell? ⟨w.heap.size, 1, none⟩ = some (.string (S a.name)) := by rw [World.cell?, hq2]; rfl
      have k2 : W'.cell? ⟨w.heap.size, 2, none⟩ = some (.slice bA bn bc) := by rw [World.cell?, hq2]; rfl
      have k3 : W'.cell? ⟨w.heap.size, 3, none⟩ = some (.slice nA nn nc) := by rw [World.cell?, hq2]; rfl
      have k4 : W'.cell? ⟨w.heap.size, 4, none⟩ = some (.int .i64 a.mem) := by rw [World.cell?, hq2]; rfl
      have k5 : W'.cell? ⟨w.heap.size, 5, none⟩ = some (.int .i64 a.fuel) := by rw [World.cell?, hq2]; rfl
      clear hin hout hE0 hb hq2 c0 HW1 hr1 HQ
      obtain ⟨wd, hwd⟩ : ∃ wd, wd = actWs.getD 0 [] := ⟨_, rfl⟩
      have HWD : Hid (wd = wPut) := Lib.hid hwd
      have hwl : wd.length ≤ 10 := by rw [hwd]; decide
      rw [← hwd]
      clear hwd
      obtain ⟨g1, g2, g3, g4⟩ := may_len HMM.out
      have hx1 := hxT_len a.bytes
      have hx2 : (chs a.bytes).length = a.bytes.length := by simp [chs]
      have hi1 := Lib.itoa_length_le a.mem HA.out.hm.1 HA.out.hm.2
      have hi2 := Lib.itoa_length_le a.fuel HA.out.hf.1 HA.out.hf.2
      have sw : (S wd).size ≤ 10 := by rw [S_size]; exact hwl
      have sn : (S a.name).size ≤ 31 := by rw [S_size]; exact g1
      have sx : (S (hxT a.bytes)).size ≤ 200000 := by rw [S_size]; omega
      have HHX : Hid (Calls Tryz.prog 62 #[.slice bA bn bc] W' fun e w' => e = .returned (.string (S (hxT a.bytes))) ∧ Below W'.heap.size W' w') := Lib.hid (rhex25_any bA bn bc a.bytes W' (HA.out.below HB2.out).hbr HA.out.hbb (by have := HA.out.hbr.1; omega))
      clear hwl g1 g2 g3 g4 hx1 hx2 hi1 hi2
      go_wp2_with (go_at_call 62; (with_reducible refine HHX.out.mono ?_); rintro e w' ⟨rfl, hb⟩; have HB3 := Lib.hid (HB2.out.trans (hb.mono HB2.out.size)); clear hb)
      go_ret
      exact ⟨ret_B (by show S wd ++ S [32] ++ S a.name ++ S [32] ++ S (hxT a.bytes) = _; rw [← S_app, ← S_app, ← S_app, ← S_app]; unfold Ac.txt; rw [← HKD.out, HWD.out]; simp), HB3.out⟩
  · obtain ⟨Post, hin, hout⟩ : ∃ Post : Act → World → Prop, Hid (∀ a' W', (∃ g, a' = { tmps := List.toArray ((.agg #[.int .i64 2, .string (S a.name), .slice bA bn bc, .slice nA nn nc, .int .i64 a.mem, .int .i64 a.fuel]) :: (.pointer (some ⟨w.heap.size, 0, none⟩)) :: (.string ⟨#[]⟩) :: (.string (S (actWs.getD 1 []))) :: undef :: (.slice (some ⟨g, 0, none⟩) 7 7) :: (.pointer (some ⟨w.heap.size, 0, none⟩)) :: (.int .i64 2) :: (.int .i64 1) :: (.pointer (some ⟨g, 1, none⟩)) :: (.string (S (actWs.getD 1 []))) :: undef :: undef :: undef :: undef :: undef :: undef :: undef :: undef :: undef :: undef :: undef :: undef :: undef :: undef :: undef :: undef :: undef :: undef :: undef :: undef :: undef :: undef :: undef :: undef :: undef :: undef :: undef :: undef :: undef :: undef :: undef :: undef :: undef :: undef :: undef :: undef :: undef :: undef :: undef :: undef :: undef :: undef :: undef :: undef :: undef :: undef :: undef :: undef :: undef :: undef :: undef :: undef :: undef :: undef :: undef :: undef :: undef :: undef :: undef :: undef :: undef :: undef :: undef :: undef :: []), defers := [] } ∧ Below W1.heap.size W1 W') → Post a' W') ∧ Hid (∀ a' W', Post a' W' → (∃ g, a' = { tmps := List.toArray ((.agg #[.int .i64 2, .string (S a.name), .slice bA bn bc, .slice nA nn nc, .int .i64 a.mem, .int .i64 a.fuel]) :: (.pointer (some ⟨w.heap.size, 0, none⟩)) :: (.string ⟨#[]⟩) :: (.string (S (actWs.getD 1 []))) :: undef :: (.slice (some ⟨g, 0, none⟩) 7 7) :: (.pointer (some ⟨w.heap.size, 0, none⟩)) :: (.int .i64 2) :: (.int .i64 1) :: (.pointer (some ⟨g, 1, none⟩)) :: (.string (S (actWs.getD 1 []))) :: undef :: undef :: undef :: undef :: undef :: undef :: undef :: undef :: undef :: undef :: undef :: undef :: undef :: undef :: undef :: undef :: undef :: undef :: undef :: undef :: undef :: undef :: undef :: undef :: undef :: undef :: undef :: undef :: undef :: undef :: undef :: undef :: undef :: undef :: undef :: undef :: undef :: undef :: undef :: undef :: undef :: undef :: undef :: undef :: undef :: undef :: undef :: undef :: undef :: undef :: undef :: undef :: undef :: undef :: undef :: undef :: undef :: undef :: undef :: undef :: undef :: undef :: undef :: undef :: []), defers := [] } ∧ Below W1.heap.size W1 W')) := ⟨_, Lib.hid fun _ _ h => h, Lib.hid fun _ _ h => h⟩
    refine Code.wp_mono (Q := Exit.then Post (fun _ _ _ => False)) ?_ ?_
    rotate_left
    · as_aux_lemma =>
        refine wp_region_inv' 7 rfl (fun L a' w' => ∃ y0 y1 y2 y3 y4 y5 y6 : Value, a' = { tmps := List.toArray ((.agg #[.int .i64 2, .string (S a.name), .slice bA bn bc, .slice nA nn nc, .int .i64 a.mem, .int .i64 a.fuel]) :: (.pointer (some ⟨w.heap.size, 0, none⟩)) :: (.string ⟨#[]⟩) :: y6 :: undef :: y0 :: y1 :: y2 :: y3 :: y4 :: y5 :: undef :: undef :: undef :: undef :: undef :: undef :: undef :: undef :: undef :: undef :: undef :: undef :: undef :: undef :: undef :: undef :: undef :: undef :: undef :: undef :: undef :: undef :: undef :: undef :: undef :: undef :: undef :: undef :: undef :: undef :: undef :: undef :: undef :: undef :: undef :: undef :: undef :: undef :: undef :: undef :: undef :: undef :: undef :: undef :: undef :: undef :: undef :: undef :: undef :: undef :: undef :: undef :: undef :: undef :: undef :: undef :: undef :: undef :: undef :: undef :: undef :: undef :: undef :: undef :: []), defers := [] } ∧ (L 0 = true → ∃ g, y0 = .slice (some ⟨g, 0, none⟩) 7 7) ∧ (L 1 = true → y1 = .pointer (some ⟨w.heap.size, 0, none⟩)) ∧ (L 2 = true → y2 = .int .i64 2) ∧ (L 3 = true → y3 = .int .i64 1) ∧ (L 4 = true → ∃ g, y0 = .slice (some ⟨g, 0, none⟩) 7 7 ∧ y4 = .pointer (some ⟨g, 1, none⟩)) ∧ (L 5 = true → y5 = .string (S (actWs.getD 1 []))) ∧ (L 6 = true → y6 = .string (S (actWs.getD 1 []))) ∧ Below W1.heap.size W1 w' ∧ w'.cell? ⟨w.heap.size, 0, none⟩ = some (.int .i64 2) ∧ (L 0 = true → ∀ g, y0 = .slice (some ⟨g, 0, none⟩) 7 7 → ∀ j, j < 7 → w'.cell? ⟨g, j, none⟩ = some (.string (S (actWs.getD j []))))) (by kernel_rfl) (by kernel_rfl) ?h0 ?step ?fin
        case h0 => exact ⟨undef, undef, undef, undef, undef, undef, undef, rfl, (fun e => by simp at e), (fun e => by simp at e), (fun e => by simp at e), (fun e => by simp at e), (fun e => by simp at e), (fun e => by simp at e), (fun e => by simp at e), hr1, c0, fun e => by simp at e⟩
        case step =>
          rintro i hi L a' w' hLi hcl hdp ⟨y0, y1, y2, y3, y4, y5, y6, rfl, e0, e1, e2, e3, e4, e5, e6, hW, hC, hJ⟩
          have hi2 : i = 0 ∨ i = 1 ∨ i = 2 ∨ i = 3 ∨ i = 4 ∨ i = 5 ∨ i = 6 := by omega
          rcases hi2 with rfl | rfl | rfl | rfl | rfl | rfl | rfl
          · have HW := Lib.hid hW; have HC := Lib.hid hC; have HJ := Lib.hid hJ
            have l4 : L 4 = false := by
              cases h : L 4
              · rfl
              · exact absurd (hcl 4 0 h (by kernel_rfl)) (by rw [hLi]; decide)
            have E1 := Lib.hid e1; have E2 := Lib.hid e2; have E3 := Lib.hid e3; have E4 := Lib.hid e4; have E5 := Lib.hid e5; have E6 := Lib.hid e6
            clear hcl hdp hW hC hJ e0 e1 e2 e3 e4 e5 e6
            refine wpOp_step rfl (fun K hK => ?_)
            go_simp
            refine (HW1.out _ HW.out).mono ?_
            rintro e v1 ⟨g, rfl, hb1, hc1, hj1⟩
            exact hK _ _ ⟨_, _, _, _, _, _, _, rfl, (fun _ => ⟨_, rfl⟩), (fun h => E1.out (by simpa [upOn] using h)), (fun h => E2.out (by simpa [upOn] using h)), (fun h => E3.out (by simpa [upOn] using h)), (fun h => by simp [upOn, l4] at h), (fun h => E5.out (by simpa [upOn] using h)), (fun h => E6.out (by simpa [upOn] using h)), hb1, hc1, (fun _ g' hg j hj => by cases hg; exact hj1 j hj)⟩
          · have HW := Lib.hid hW; have HC := Lib.hid hC; have HJ := Lib.hid hJ
            have E0 := Lib.hid e0; have E2 := Lib.hid e2; have E3 := Lib.hid e3; have E4 := Lib.hid e4; have E5 := Lib.hid e5; have E6 := Lib.hid e6
            clear hcl hdp hW hC hJ e0 e1 e2 e3 e4 e5 e6
            refine wpOp_step rfl (fun K hK => ?_)
            go_simp
            exact hK _ _ ⟨_, _, _, _, _, _, _, rfl, (fun h => E0.out (by simpa [upOn] using h)), (fun _ => rfl), (fun h => E2.out (by simpa [upOn] using h)), (fun h => E3.out (by simpa [upOn] using h)), (fun h => E4.out (by simpa [upOn] using h)), (fun h => E5.out (by simpa [upOn] using h)), (fun h => E6.out (by simpa [upOn] using h)), HW.out, HC.out, (fun h g hg j hj => HJ.out (by simpa [upOn] using h) g hg j hj)⟩
          · have HW := Lib.hid hW; have HC := Lib.hid hC; have HJ := Lib.hid hJ
            obtain rfl := e1 (hdp 1 (by kernel_rfl))
            have E0 := Lib.hid e0; have E3 := Lib.hid e3; have E4 := Lib.hid e4; have E5 := Lib.hid e5; have E6 := Lib.hid e6
            clear hcl hdp hW hC hJ e0 e1 e2 e3 e4 e5 e6
            refine wpOp_step rfl (fun K hK => ?_)
            have kc := HC.out
            go_simp
            exact hK _ _ ⟨_, _, _, _, _, _, _, rfl, (fun h => E0.out (by simpa [upOn] using h)), (fun _ => rfl), (fun _ => rfl), (fun h => E3.out (by simpa [upOn] using h)), (fun h => E4.out (by simpa [upOn] using h)), (fun h => E5.out (by simpa [upOn] using h)), (fun h => E6.out (by simpa [upOn] using h)), HW.out, HC.out, (fun h g hg j hj => HJ.out (by simpa [upOn] using h) g hg j hj)⟩
          · have HW := Lib.hid hW; have HC := Lib.hid hC; have HJ := Lib.hid hJ
            obtain rfl := e2 (hdp 2 (by kernel_rfl))
            have E0 := Lib.hid e0; have E1 := Lib.hid e1; have E4 := Lib.hid e4; have E5 := Lib.hid e5; have E6 := Lib.hid e6
            clear hcl hdp hW hC hJ e0 e1 e2 e3 e4 e5 e6
            refine wpOp_step rfl (fun K hK => ?_)
            go_simp
            exact hK _ _ ⟨_, _, _, _, _, _, _, rfl, (fun h => E0.out (by simpa [upOn] using h)), (fun h => E1.out (by simpa [upOn] using h)), (fun _ => rfl), (fun _ => rfl), (fun h => E4.out (by simpa [upOn] using h)), (fun h => E5.out (by simpa [upOn] using h)), (fun h => E6.out (by simpa [upOn] using h)), HW.out, HC.out, (fun h g hg j hj => HJ.out (by simpa [upOn] using h) g hg j hj)⟩
          · have HW := Lib.hid hW; have HC := Lib.hid hC; have HJ := Lib.hid hJ
            obtain ⟨g, rfl⟩ := e0 (hdp 0 (by kernel_rfl))
            obtain rfl := e3 (hdp 3 (by kernel_rfl))
            have E1 := Lib.hid e1; have E2 := Lib.hid e2; have E5 := Lib.hid e5; have E6 := Lib.hid e6
            clear hcl hdp hW hC hJ e0 e1 e2 e3 e4 e5 e6
            refine wpOp_step rfl (fun K hK => ?_)
            go_simp
            exact hK _ _ ⟨_, _, _, _, _, _, _, rfl, (fun _ => ⟨_, rfl⟩), (fun h => E1.out (by simpa [upOn] using h)), (fun h => E2.out (by simpa [upOn] using h)), (fun _ => rfl), (fun _ => ⟨_, rfl, rfl⟩), (fun h => E5.out (by simpa [upOn] using h)), (fun h => E6.out (by simpa [upOn] using h)), HW.out, HC.out, (fun h g hg j hj => HJ.out (by simpa [upOn] using h) g hg j hj)⟩
          · have HW := Lib.hid hW; have HC := Lib.hid hC; have HJ := Lib.hid hJ
            have l0 : L 0 = true := hcl 4 0 (hdp 4 (by kernel_rfl)) (by kernel_rfl)
            obtain ⟨g, rfl, rfl⟩ := e4 (hdp 4 (by kernel_rfl))
            have E0 := Lib.hid e0; have E1 := Lib.hid e1; have E2 := Lib.hid e2; have E3 := Lib.hid e3; have E6 := Lib.hid e6
            clear hcl hdp hW hC hJ e0 e1 e2 e3 e4 e5 e6
            refine wpOp_step rfl (fun K hK => ?_)
            have kj := HJ.out l0 g rfl 1 (by omega)
            go_simp
            exact hK _ _ ⟨_, _, _, _, _, _, _, rfl, (fun h => E0.out (by simpa [upOn] using h)), (fun h => E1.out (by simpa [upOn] using h)), (fun h => E2.out (by simpa [upOn] using h)), (fun h => E3.out (by simpa [upOn] using h)), (fun _ => ⟨_, rfl, rfl⟩), (fun _ => rfl), (fun h => E6.out (by simpa [upOn] using h)), HW.out, HC.out, (fun h g hg j hj => HJ.out (by simpa [upOn] using h) g hg j hj)⟩
          · have HW := Lib.hid hW; have HC := Lib.hid hC; have HJ := Lib.hid hJ
            obtain rfl := e5 (hdp 5 (by kernel_rfl))
            have E0 := Lib.hid e0; have E1 := Lib.hid e1; have E2 := Lib.hid e2; have E3 := Lib.hid e3; have E4 := Lib.hid e4
            clear hcl hdp hW hC hJ e0 e1 e2 e3 e4 e5 e6
            refine wpOp_step rfl (fun K hK => ?_)
            go_simp
            exact hK _ _ ⟨_, _, _, _, _, _, _, rfl, (fun h => E0.out (by simpa [upOn] using h)), (fun h => E1.out (by simpa [upOn] using h)), (fun h => E2.out (by simpa [upOn] using h)), (fun h => E3.out (by simpa [upOn] using h)), (fun h => E4.out (by simpa [upOn] using h)), (fun _ => rfl), (fun _ => rfl), HW.out, HC.out, (fun h g hg j hj => HJ.out (by simpa [upOn] using h) g hg j hj)⟩
        case fin =>
          rintro L a' w' hall ⟨y0, y1, y2, y3, y4, y5, y6, rfl, e0, e1, e2, e3, e4, e5, e6, hW, -, -⟩
          obtain ⟨g, rfl, rfl⟩ := e4 (hall 4 (by omega))
          obtain rfl := e1 (hall 1 (by omega))
          obtain rfl := e2 (hall 2 (by omega))
          obtain rfl := e3 (hall 3 (by omega))
          obtain rfl := e5 (hall 5 (by omega))
          obtain rfl := e6 (hall 6 (by omega))
          exact hin.out _ _ ⟨g, rfl, hW⟩
    · intro e a' W' hE0
      have hen : e = Exit.normal := by cases e <;> first | rfl | exact hE0.elim
      subst hen
      obtain ⟨g, rfl, hb⟩ := hout.out _ _ hE0
      have HB2 := Lib.hid (HB1.out.trans (hb.mono HB1.out.size))
      have hq2 := (hb.block _ (Array.getElem?_eq_some_iff.1 HQ.out).1).trans HQ.out
      have k0 : W'.cell? ⟨w.heap.size, 0, none⟩ = some (.int .i64 2) := by rw [World.cell?, hq2]; rfl
      have k1 : W'.cell? ⟨w.heap.size, 1, none⟩ = some (.string (S a.name)) := by rw [World.cell?, hq2]; rfl
      have k2 : W'.cell? ⟨w.heap.size, 2, none⟩ = some (.slice bA bn bc) := by rw [World.cell?, hq2]; rfl
      have k3 : W'.cell? ⟨w.heap.size, 3, none⟩ = some (.slice nA nn nc) := by rw [World.cell?, hq2]; rfl
      have k4 : W'.cell? ⟨w.heap.size, 4, none⟩ = some (.int .i64 a.mem) := by rw [World.cell?, hq2]; rfl
      have k5 : W'.cell? ⟨w.heap.size, 5, none⟩ = some (.int .i64 a.fuel) := by rw [World.cell?, hq2]; rfl
      clear hin hout hE0 hb hq2 c0 HW1 hr1 HQ
      obtain ⟨wd, hwd⟩ : ∃ wd, wd = actWs.getD 1 [] := ⟨_, rfl⟩
      have HWD : Hid (wd = wAdd) := Lib.hid hwd
      have hwl : wd.length ≤ 10 := by rw [hwd]; decide
      rw [← hwd]
      clear hwd
      obtain ⟨g1, g2, g3, g4⟩ := may_len HMM.out
      have hx1 := hxT_len a.bytes
      have hx2 : (chs a.bytes).length = a.bytes.length := by simp [chs]
      have hi1 := Lib.itoa_length_le a.mem HA.out.hm.1 HA.out.hm.2
      have hi2 := Lib.itoa_length_le a.fuel HA.out.hf.1 HA.out.hf.2
      have sw : (S wd).size ≤ 10 := by rw [S_size]; exact hwl
      have sn : (S a.name).size ≤ 31 := by rw [S_size]; exact g1
      have sx : (S (chs a.bytes)).size ≤ 200000 := by rw [S_size]; omega
      have hcv := conv_rd (HA.out.below HB2.out).hbr bc
      have hce : strOf a.bytes = S (chs a.bytes) := strOf_list a.bytes
      rw [hce] at hcv
      clear hce
      clear hwl g1 g2 g3 g4 hx1 hx2 hi1 hi2
      go_wp2_with fail
      go_ret
      exact ⟨ret_B (by show S wd ++ S [32] ++ S a.name ++ S [32] ++ S (chs a.bytes) = _; rw [← S_app, ← S_app, ← S_app, ← S_app]; unfold Ac.txt; rw [← HKD.out, HWD.out]; simp), HB2.out⟩
  · obtain ⟨Post, hin, hout⟩ : ∃ Post : Act → World → Prop, Hid (∀ a' W', (∃ g, a' = { tmps := List.toArray ((.agg #[.int .i64 3, .string (S a.name), .slice bA bn bc, .slice nA nn nc, .int .i64 a.mem, .int .i64 a.fuel]) :: (.pointer (some ⟨w.heap.size, 0, none⟩)) :: (.string ⟨#[]⟩) :: (.string (S (actWs.getD 2 []))) :: undef :: (.slice (some ⟨g, 0, none⟩) 7 7) :: (.pointer (some ⟨w.heap.size, 0, none⟩)) :: (.int .i64 3) :: (.int .i64 2) :: (.pointer (some ⟨g, 2, none⟩)) :: (.string (S (actWs.getD 2 []))) :: undef :: undef :: undef :: undef :: undef :: undef :: undef :: undef :: undef :: undef :: undef :: undef :: undef :: undef :: undef :: undef :: undef :: undef :: undef :: undef :: undef :: undef :: undef :: undef :: undef :: undef :: undef :: undef :: undef :: undef :: undef :: undef :: undef :: undef :: undef :: undef :: undef :: undef :: undef :: undef :: undef :: undef :: undef :: undef :: undef :: undef :: undef :: undef :: undef :: undef :: undef :: undef :: undef :: undef :: undef :: undef :: undef :: undef :: undef :: undef :: undef :: undef :: undef :: undef :: []), defers := [] } ∧ Below W1.heap.size W1 W') → Post a' W') ∧ Hid (∀ a' W', Post a' W' → (∃ g, a' = { tmps := List.toArray ((.agg #[.int .i64 3, .string (S a.name), .slice bA bn bc, .slice nA nn nc, .int .i64 a.mem, .int .i64 a.fuel]) :: (.pointer (some ⟨w.heap.size, 0, none⟩)) :: (.string ⟨#[]⟩) :: (.string (S (actWs.getD 2 []))) :: undef :: (.slice (some ⟨g, 0, none⟩) 7 7) :: (.pointer (some ⟨w.heap.size, 0, none⟩)) :: (.int .i64 3) :: (.int .i64 2) :: (.pointer (some ⟨g, 2, none⟩)) :: (.string (S (actWs.getD 2 []))) :: undef :: undef :: undef :: undef :: undef :: undef :: undef :: undef :: undef :: undef :: undef :: undef :: undef :: undef :: undef :: undef :: undef :: undef :: undef :: undef :: undef :: undef :: undef :: undef :: undef :: undef :: undef :: undef :: undef :: undef :: undef :: undef :: undef :: undef :: undef :: undef :: undef :: undef :: undef :: undef :: undef :: undef :: undef :: undef :: undef :: undef :: undef :: undef :: undef :: undef :: undef :: undef :: undef :: undef :: undef :: undef :: undef :: undef :: undef :: undef :: undef :: undef :: undef :: undef :: []), defers := [] } ∧ Below W1.heap.size W1 W')) := ⟨_, Lib.hid fun _ _ h => h, Lib.hid fun _ _ h => h⟩
    refine Code.wp_mono (Q := Exit.then Post (fun _ _ _ => False)) ?_ ?_
    rotate_left
    · as_aux_lemma =>
        refine wp_region_inv' 7 rfl (fun L a' w' => ∃ y0 y1 y2 y3 y4 y5 y6 : Value, a' = { tmps := List.toArray ((.agg #[.int .i64 3, .string (S a.name), .slice bA bn bc, .slice nA nn nc, .int .i64 a.mem, .int .i64 a.fuel]) :: (.pointer (some ⟨w.heap.size, 0, none⟩)) :: (.string ⟨#[]⟩) :: y6 :: undef :: y0 :: y1 :: y2 :: y3 :: y4 :: y5 :: undef :: undef :: undef :: undef :: undef :: undef :: undef :: undef :: undef :: undef :: undef :: undef :: undef :: undef :: undef :: undef :: undef :: undef :: undef :: undef :: undef :: undef :: undef :: undef :: undef :: undef :: undef :: undef :: undef :: undef :: undef :: undef :: undef :: undef :: undef :: undef :: undef :: undef :: undef :: undef :: undef :: undef :: undef :: undef :: undef :: undef :: undef :: undef :: undef :: undef :: undef :: undef :: undef :: undef :: undef :: undef :: undef :: undef :: undef :: undef :: undef :: undef :: undef :: undef :: []), defers := [] } ∧ (L 0 = true → ∃ g, y0 = .slice (some ⟨g, 0, none⟩) 7 7) ∧ (L 1 = true → y1 = .pointer (some ⟨w.heap.size, 0, none⟩)) ∧ (L 2 = true → y2 = .int .i64 3) ∧ (L 3 = true → y3 = .int .i64 2) ∧ (L 4 = true → ∃ g, y0 = .slice (some ⟨g, 0, none⟩) 7 7 ∧ y4 = .pointer (some ⟨g, 2, none⟩)) ∧ (L 5 = true → y5 = .string (S (actWs.getD 2 []))) ∧ (L 6 = true → y6 = .string (S (actWs.getD 2 []))) ∧ Below W1.heap.size W1 w' ∧ w'.cell? ⟨w.heap.size, 0, none⟩ = some (.int .i64 3) ∧ (L 0 = true → ∀ g, y0 = .slice (some ⟨g, 0, none⟩) 7 7 → ∀ j, j < 7 → w'.cell? ⟨g, j, none⟩ = some (.string (S (actWs.getD j []))))) (by kernel_rfl) (by kernel_rfl) ?h0 ?step ?fin
        case h0 => exact ⟨undef, undef, undef, undef, undef, undef, undef, rfl, (fun e => by simp at e), (fun e => by simp at e), (fun e => by simp at e), (fun e => by simp at e), (fun e => by simp at e), (fun e => by simp at e), (fun e => by simp at e), hr1, c0, fun e => by simp at e⟩
        case step =>
          rintro i hi L a' w' hLi hcl hdp ⟨y0, y1, y2, y3, y4, y5, y6, rfl, e0, e1, e2, e3, e4, e5, e6, hW, hC, hJ⟩
          have hi2 : i = 0 ∨ i = 1 ∨ i = 2 ∨ i = 3 ∨ i = 4 ∨ i = 5 ∨ i = 6 := by omega
          rcases hi2 with rfl | rfl | rfl | rfl | rfl | rfl | rfl
          · have HW := Lib.hid hW; have HC := Lib.hid hC; have HJ := Lib.hid hJ
            have l4 : L 4 = false := by
              cases h : L 4
              · rfl
              · exact absurd (hcl 4 0 h (by kernel_rfl)) (by rw [hLi]; decide)
            have E1 := Lib.hid e1; have E2 := Lib.hid e2; have E3 := Lib.hid e3; have E4 := Lib.hid e4; have E5 := Lib.hid e5; have E6 := Lib.hid e6
            clear hcl hdp hW hC hJ e0 e1 e2 e3 e4 e5 e6
            refine wpOp_step rfl (fun K hK => ?_)
            go_simp
            refine (HW1.out _ HW.out).mono ?_
            rintro e v1 ⟨g, rfl, hb1, hc1, hj1⟩
            exact hK _ _ ⟨_, _, _, _, _, _, _, rfl, (fun _ => ⟨_, rfl⟩), (fun h => E1.out (by simpa [upOn] using h)), (fun h => E2.out (by simpa [upOn] using h)), (fun h => E3.out (by simpa [upOn] using h)), (fun h => by simp [upOn, l4] at h), (fun h => E5.out (by simpa [upOn] using h)), (fun h => E6.out (by simpa [upOn] using h)), hb1, hc1, (fun _ g' hg j hj => by cases hg; exact hj1 j hj)⟩
          · have HW := Lib.hid hW; have HC := Lib.hid hC; have HJ := Lib.hid hJ
            have E0 := Lib.hid e0; have E2 := Lib.hid e2; have E3 := Lib.hid e3; have E4 := Lib.hid e4; have E5 := Lib.hid e5; have E6 := Lib.hid e6
            clear hcl hdp hW hC hJ e0 e1 e2 e3 e4 e5 e6
            refine wpOp_step rfl (fun K hK => ?_)
            go_simp
            exact hK _ _ ⟨_, _, _, _, _, _, _, rfl, (fun h => E0.out (by simpa [upOn] using h)), (fun _ => rfl), (fun h => E2.out (by simpa [upOn] using h)), (fun h => E3.out (by simpa [upOn] using h)), (fun h => E4.out (by simpa [upOn] using h)), (fun h => E5.out (by simpa [upOn] using h)), (fun h => E6.out (by simpa [upOn] using h)), HW.out, HC.out, (fun h g hg j hj => HJ.out (by simpa [upOn] using h) g hg j hj)⟩
          · have HW := Lib.hid hW; have HC := Lib.hid hC; have HJ := Lib.hid hJ
            obtain rfl := e1 (hdp 1 (by kernel_rfl))
            have E0 := Lib.hid e0; have E3 := Lib.hid e3; have E4 := Lib.hid e4; have E5 := Lib.hid e5; have E6 := Lib.hid e6
            clear hcl hdp hW hC hJ e0 e1 e2 e3 e4 e5 e6
            refine wpOp_step rfl (fun K hK => ?_)
            have kc := HC.out
            go_simp
            exact hK _ _ ⟨_, _, _, _, _, _, _, rfl, (fun h => E0.out (by simpa [upOn] using h)), (fun _ => rfl), (fun _ => rfl), (fun h => E3.out (by simpa [upOn] using h)), (fun h => E4.out (by simpa [upOn] using h)), (fun h => E5.out (by simpa [upOn] using h)), (fun h => E6.out (by simpa [upOn] using h)), HW.out, HC.out, (fun h g hg j hj => HJ.out (by simpa [upOn] using h) g hg j hj)⟩
          · have HW := Lib.hid hW; have HC := Lib.hid hC; have HJ := Lib.hid hJ
            obtain rfl := e2 (hdp 2 (by kernel_rfl))
            have E0 := Lib.hid e0; have E1 := Lib.hid e1; have E4 := Lib.hid e4; have E5 := Lib.hid e5; have E6 := Lib.hid e6
            clear hcl hdp hW hC hJ e0 e1 e2 e3 e4 e5 e6
            refine wpOp_step rfl (fun K hK => ?_)
            go_simp
            exact hK _ _ ⟨_, _, _, _, _, _, _, rfl, (fun h => E0.out (by simpa [upOn] using h)), (fun h => E1.out (by simpa [upOn] using h)), (fun _ => rfl), (fun _ => rfl), (fun h => E4.out (by simpa [upOn] using h)), (fun h => E5.out (by simpa [upOn] using h)), (fun h => E6.out (by simpa [upOn] using h)), HW.out, HC.out, (fun h g hg j hj => HJ.out (by simpa [upOn] using h) g hg j hj)⟩
          · have HW := Lib.hid hW; have HC := Lib.hid hC; have HJ := Lib.hid hJ
            obtain ⟨g, rfl⟩ := e0 (hdp 0 (by kernel_rfl))
            obtain rfl := e3 (hdp 3 (by kernel_rfl))
            have E1 := Lib.hid e1; have E2 := Lib.hid e2; have E5 := Lib.hid e5; have E6 := Lib.hid e6
            clear hcl hdp hW hC hJ e0 e1 e2 e3 e4 e5 e6
            refine wpOp_step rfl (fun K hK => ?_)
            go_simp
            exact hK _ _ ⟨_, _, _, _, _, _, _, rfl, (fun _ => ⟨_, rfl⟩), (fun h => E1.out (by simpa [upOn] using h)), (fun h => E2.out (by simpa [upOn] using h)), (fun _ => rfl), (fun _ => ⟨_, rfl, rfl⟩), (fun h => E5.out (by simpa [upOn] using h)), (fun h => E6.out (by simpa [upOn] using h)), HW.out, HC.out, (fun h g hg j hj => HJ.out (by simpa [upOn] using h) g hg j hj)⟩
          · have HW := Lib.hid hW; have HC := Lib.hid hC; have HJ := Lib.hid hJ
            have l0 : L 0 = true := hcl 4 0 (hdp 4 (by kernel_rfl)) (by kernel_rfl)
            obtain ⟨g, rfl, rfl⟩ := e4 (hdp 4 (by kernel_rfl))
            have E0 := Lib.hid e0; have E1 := Lib.hid e1; have E2 := Lib.hid e2; have E3 := Lib.hid e3; have E6 := Lib.hid e6
            clear hcl hdp hW hC hJ e0 e1 e2 e3 e4 e5 e6
            refine wpOp_step rfl (fun K hK => ?_)
            have kj := HJ.out l0 g rfl 2 (by omega)
            go_simp
            exact hK _ _ ⟨_, _, _, _, _, _, _, rfl, (fun h => E0.out (by simpa [upOn] using h)), (fun h => E1.out (by simpa [upOn] using h)), (fun h => E2.out (by simpa [upOn] using h)), (fun h => E3.out (by simpa [upOn] using h)), (fun _ => ⟨_, rfl, rfl⟩), (fun _ => rfl), (fun h => E6.out (by simpa [upOn] using h)), HW.out, HC.out, (fun h g hg j hj => HJ.out (by simpa [upOn] using h) g hg j hj)⟩
          · have HW := Lib.hid hW; have HC := Lib.hid hC; have HJ := Lib.hid hJ
            obtain rfl := e5 (hdp 5 (by kernel_rfl))
            have E0 := Lib.hid e0; have E1 := Lib.hid e1; have E2 := Lib.hid e2; have E3 := Lib.hid e3; have E4 := Lib.hid e4
            clear hcl hdp hW hC hJ e0 e1 e2 e3 e4 e5 e6
            refine wpOp_step rfl (fun K hK => ?_)
            go_simp
            exact hK _ _ ⟨_, _, _, _, _, _, _, rfl, (fun h => E0.out (by simpa [upOn] using h)), (fun h => E1.out (by simpa [upOn] using h)), (fun h => E2.out (by simpa [upOn] using h)), (fun h => E3.out (by simpa [upOn] using h)), (fun h => E4.out (by simpa [upOn] using h)), (fun _ => rfl), (fun _ => rfl), HW.out, HC.out, (fun h g hg j hj => HJ.out (by simpa [upOn] using h) g hg j hj)⟩
        case fin =>
          rintro L a' w' hall ⟨y0, y1, y2, y3, y4, y5, y6, rfl, e0, e1, e2, e3, e4, e5, e6, hW, -, -⟩
          obtain ⟨g, rfl, rfl⟩ := e4 (hall 4 (by omega))
          obtain rfl := e1 (hall 1 (by omega))
          obtain rfl := e2 (hall 2 (by omega))
          obtain rfl := e3 (hall 3 (by omega))
          obtain rfl := e5 (hall 5 (by omega))
          obtain rfl := e6 (hall 6 (by omega))
          exact hin.out _ _ ⟨g, rfl, hW⟩
    · intro e a' W' hE0
      have hen : e = Exit.normal := by cases e <;> first | rfl | exact hE0.elim
      subst hen
      obtain ⟨g, rfl, hb⟩ := hout.out _ _ hE0
      have HB2 := Lib.hid (HB1.out.trans (hb.mono HB1.out.size))
      have hq2 := (hb.block _ (Array.getElem?_eq_some_iff.1 HQ.out).1).trans HQ.out
      have k0 : W'.cell? ⟨w.heap.size, 0, none⟩ = some (.int .i64 3) := by rw [World.cell?, hq2]; rfl
      have k1 : W'.cell? ⟨w.heap.size, 1, none⟩ = some (.string (S a.name)) := by rw [World.cell?, hq2]; rfl
      have k2 : W'.cell? ⟨w.heap.size, 2, none⟩ = some (.slice bA bn bc) := by rw [World.cell?, hq2]; rfl
      have k3 : W'.cell? ⟨w.heap.size, 3, none⟩ = some (.slice nA nn nc) := by rw [World.cell?, hq2]; rfl
      have k4 : W'.cell? ⟨w.heap.size, 4, none⟩ = some (.int .i64 a.mem) := by rw [World.cell?, hq2]; rfl
      have k5 : W'.cell? ⟨w.heap.size, 5, none⟩ = some (.int .i64 a.fuel) := by rw [World.cell?, hq2]; rfl
      clear hin hout hE0 hb hq2 c0 HW1 hr1 HQ
      obtain ⟨wd, hwd⟩ : ∃ wd, wd = actWs.getD 2 [] := ⟨_, rfl⟩
      have HWD : Hid (wd = wDrop) := Lib.hid hwd
      have hwl : wd.length ≤ 10 := by rw [hwd]; decide
      rw [← hwd]
      clear hwd
      obtain ⟨g1, g2, g3, g4⟩ := may_len HMM.out
      have hx1 := hxT_len a.bytes
      have hx2 : (chs a.bytes).length = a.bytes.length := by simp [chs]
      have hi1 := Lib.itoa_length_le a.mem HA.out.hm.1 HA.out.hm.2
      have hi2 := Lib.itoa_length_le a.fuel HA.out.hf.1 HA.out.hf.2
      have sw : (S wd).size ≤ 10 := by rw [S_size]; exact hwl
      have sn : (S a.name).size ≤ 31 := by rw [S_size]; exact g1
      clear hwl g1 g2 g3 g4 hx1 hx2 hi1 hi2
      go_wp2_with fail
      go_ret
      exact ⟨ret_B (by show S wd ++ S [32] ++ S a.name = _; rw [← S_app, ← S_app]; unfold Ac.txt; rw [← HKD.out, HWD.out]; simp), HB2.out⟩
  · obtain ⟨Post, hin, hout⟩ : ∃ Post : Act → World → Prop, Hid (∀ a' W', (∃ g, a' = { tmps := List.toArray ((.agg #[.int .i64 4, .string (S a.name), .slice bA bn bc, .slice nA nn nc, .int .i64 a.mem, .int .i64 a.fuel]) :: (.pointer (some ⟨w.heap.size, 0, none⟩)) :: (.string ⟨#[]⟩) :: (.string (S (actWs.getD 3 []))) :: undef :: (.slice (some ⟨g, 0, none⟩) 7 7) :: (.pointer (some ⟨w.heap.size, 0, none⟩)) :: (.int .i64 4) :: (.int .i64 3) :: (.pointer (some ⟨g, 3, none⟩)) :: (.string (S (actWs.getD 3 []))) :: undef :: undef :: undef :: undef :: undef :: undef :: undef :: undef :: undef :: undef :: undef :: undef :: undef :: undef :: undef :: undef :: undef :: undef :: undef :: undef :: undef :: undef :: undef :: undef :: undef :: undef :: undef :: undef :: undef :: undef :: undef :: undef :: undef :: undef :: undef :: undef :: undef :: undef :: undef :: undef :: undef :: undef :: undef :: undef :: undef :: undef :: undef :: undef :: undef :: undef :: undef :: undef :: undef :: undef :: undef :: undef :: undef :: undef :: undef :: undef :: undef :: undef :: undef :: undef :: []), defers := [] } ∧ Below W1.heap.size W1 W') → Post a' W') ∧ Hid (∀ a' W', Post a' W' → (∃ g, a' = { tmps := List.toArray ((.agg #[.int .i64 4, .string (S a.name), .slice bA bn bc, .slice nA nn nc, .int .i64 a.mem, .int .i64 a.fuel]) :: (.pointer (some ⟨w.heap.size, 0, none⟩)) :: (.string ⟨#[]⟩) :: (.string (S (actWs.getD 3 []))) :: undef :: (.slice (some ⟨g, 0, none⟩) 7 7) :: (.pointer (some ⟨w.heap.size, 0, none⟩)) :: (.int .i64 4) :: (.int .i64 3) :: (.pointer (some ⟨g, 3, none⟩)) :: (.string (S (actWs.getD 3 []))) :: undef :: undef :: undef :: undef :: undef :: undef :: undef :: undef :: undef :: undef :: undef :: undef :: undef :: undef :: undef :: undef :: undef :: undef :: undef :: undef :: undef :: undef :: undef :: undef :: undef :: undef :: undef :: undef :: undef :: undef :: undef :: undef :: undef :: undef :: undef :: undef :: undef :: undef :: undef :: undef :: undef :: undef :: undef :: undef :: undef :: undef :: undef :: undef :: undef :: undef :: undef :: undef :: undef :: undef :: undef :: undef :: undef :: undef :: undef :: undef :: undef :: undef :: undef :: undef :: []), defers := [] } ∧ Below W1.heap.size W1 W')) := ⟨_, Lib.hid fun _ _ h => h, Lib.hid fun _ _ h => h⟩
    refine Code.wp_mono (Q := Exit.then Post (fun _ _ _ => False)) ?_ ?_
    rotate_left
    · as_aux_lemma =>
        refine wp_region_inv' 7 rfl (fun L a' w' => ∃ y0 y1 y2 y3 y4 y5 y6 : Value, a' = { tmps := List.toArray ((.agg #[.int .i64 4, .string (S a.name), .slice bA bn bc, .slice nA nn nc, .int .i64 a.mem, .int .i64 a.fuel]) :: (.pointer (some ⟨w.heap.size, 0, none⟩)) :: (.string ⟨#[]⟩) :: y6 :: undef :: y0 :: y1 :: y2 :: y3 :: y4 :: y5 :: undef :: undef :: undef :: undef :: undef :: undef :: undef :: undef :: undef :: undef :: undef :: undef :: undef :: undef :: undef :: undef :: undef :: undef :: undef :: undef :: undef :: undef :: undef :: undef :: undef :: undef :: undef :: undef :: undef :: undef :: undef :: undef :: undef :: undef :: undef :: undef :: undef :: undef :: undef :: undef :: undef :: undef :: undef :: undef :: undef :: undef :: undef :: undef :: undef :: undef :: undef :: undef :: undef :: undef :: undef :: undef :: undef :: undef :: undef :: undef :: undef :: undef :: undef :: undef :: []), defers := [] } ∧ (L 0 = true → ∃ g, y0 = .slice (some ⟨g, 0, none⟩) 7 7) ∧ (L 1 = true → y1 = .pointer (some ⟨w.heap.size, 0, none⟩)) ∧ (L 2 = true → y2 = .int .i64 4) ∧ (L 3 = true → y3 = .int .i64 3) ∧ (L 4 = true → ∃ g, y0 = .slice (some ⟨g, 0, none⟩) 7 7 ∧ y4 = .pointer (some ⟨g, 3, none⟩)) ∧ (L 5 = true → y5 = .string (S (actWs.getD 3 []))) ∧ (L 6 = true → y6 = .string (S (actWs.getD 3 []))) ∧ Below W1.heap.size W1 w' ∧ w'.cell? ⟨w.heap.size, 0, none⟩ = some (.int .i64 4) ∧ (L 0 = true → ∀ g, y0 = .slice (some ⟨g, 0, none⟩) 7 7 → ∀ j, j < 7 → w'.cell? ⟨g, j, none⟩ = some (.string (S (actWs.getD j []))))) (by kernel_rfl) (by kernel_rfl) ?h0 ?step ?fin
        case h0 => exact ⟨undef, undef, undef, undef, undef, undef, undef, rfl, (fun e => by simp at e), (fun e => by simp at e), (fun e => by simp at e), (fun e => by simp at e), (fun e => by simp at e), (fun e => by simp at e), (fun e => by simp at e), hr1, c0, fun e => by simp at e⟩
        case step =>
          rintro i hi L a' w' hLi hcl hdp ⟨y0, y1, y2, y3, y4, y5, y6, rfl, e0, e1, e2, e3, e4, e5, e6, hW, hC, hJ⟩
          have hi2 : i = 0 ∨ i = 1 ∨ i = 2 ∨ i = 3 ∨ i = 4 ∨ i = 5 ∨ i = 6 := by omega
          rcases hi2 with rfl | rfl | rfl | rfl | rfl | rfl | rfl
          · have HW := Lib.hid hW; have HC := Lib.hid hC; have HJ := Lib.hid hJ
            have l4 : L 4 = false := by
              cases h : L 4
              · rfl
              · exact absurd (hcl 4 0 h (by kernel_rfl)) (by rw [hLi]; decide)
            have E1 := Lib.hid e1; have E2 := Lib.hid e2; have E3 := Lib.hid e3; have E4 := Lib.hid e4; have E5 := Lib.hid e5; have E6 := Lib.hid e6
            clear hcl hdp hW hC hJ e0 e1 e2 e3 e4 e5 e6
            refine wpOp_step rfl (fun K hK => ?_)
            go_simp
            refine (HW1.out _ HW.out).mono ?_
            rintro e v1 ⟨g, rfl, hb1, hc1, hj1⟩
            exact hK _ _ ⟨_, _, _, _, _, _, _, rfl, (fun _ => ⟨_, rfl⟩), (fun h => E1.out (by simpa [upOn] using h)), (fun h => E2.out (by simpa [upOn] using h)), (fun h => E3.out (by simpa [upOn] using h)), (fun h => by simp [upOn, l4] at h), (fun h => E5.out (by simpa [upOn] using h)), (fun h => E6.out (by simpa [upOn] using h)), hb1, hc1, (fun _ g' hg j hj => by cases hg; exact hj1 j hj)⟩
          · have HW := Lib.hid hW; have HC := Lib.hid hC; have HJ := Lib.hid hJ
            have E0 := Lib.hid e0; have E2 := Lib.hid e2; have E3 := Lib.hid e3; have E4 := Lib.hid e4; have E5 := Lib.hid e5; have E6 := Lib.hid e6
            clear hcl hdp hW hC hJ e0 e1 e2 e3 e4 e5 e6
            refine wpOp_step rfl (fun K hK => ?_)
            go_simp
            exact hK _ _ ⟨_, _, _, _, _, _, _, rfl, (fun h => E0.out (by simpa [upOn] using h)), (fun _ => rfl), (fun h => E2.out (by simpa [upOn] using h)), (fun h => E3.out (by simpa [upOn] using h)), (fun h => E4.out (by simpa [upOn] using h)), (fun h => E5.out (by simpa [upOn] using h)), (fun h => E6.out (by simpa [upOn] using h)), HW.out, HC.out, (fun h g hg j hj => HJ.out (by simpa [upOn] using h) g hg j hj)⟩
          · have HW := Lib.hid hW; have HC := Lib.hid hC; have HJ := Lib.hid hJ
            obtain rfl := e1 (hdp 1 (by kernel_rfl))
            have E0 := Lib.hid e0; have E3 := Lib.hid e3; have E4 := Lib.hid e4; have E5 := Lib.hid e5; have E6 := Lib.hid e6
            clear hcl hdp hW hC hJ e0 e1 e2 e3 e4 e5 e6
            refine wpOp_step rfl (fun K hK => ?_)
            have kc := HC.out
            go_simp
            exact hK _ _ ⟨_, _, _, _, _, _, _, rfl, (fun h => E0.out (by simpa [upOn] using h)), (fun _ => rfl), (fun _ => rfl), (fun h => E3.out (by simpa [upOn] using h)), (fun h => E4.out (by simpa [upOn] using h)), (fun h => E5.out (by simpa [upOn] using h)), (fun h => E6.out (by simpa [upOn] using h)), HW.out, HC.out, (fun h g hg j hj => HJ.out (by simpa [upOn] using h) g hg j hj)⟩
          · have HW := Lib.hid hW; have HC := Lib.hid hC; have HJ := Lib.hid hJ
            obtain rfl := e2 (hdp 2 (by kernel_rfl))
            have E0 := Lib.hid e0; have E1 := Lib.hid e1; have E4 := Lib.hid e4; have E5 := Lib.hid e5; have E6 := Lib.hid e6
            clear hcl hdp hW hC hJ e0 e1 e2 e3 e4 e5 e6
            refine wpOp_step rfl (fun K hK => ?_)
            go_simp
            exact hK _ _ ⟨_, _, _, _, _, _, _, rfl, (fun h => E0.out (by simpa [upOn] using h)), (fun h => E1.out (by simpa [upOn] using h)), (fun _ => rfl), (fun _ => rfl), (fun h => E4.out (by simpa [upOn] using h)), (fun h => E5.out (by simpa [upOn] using h)), (fun h => E6.out (by simpa [upOn] using h)), HW.out, HC.out, (fun h g hg j hj => HJ.out (by simpa [upOn] using h) g hg j hj)⟩
          · have HW := Lib.hid hW; have HC := Lib.hid hC; have HJ := Lib.hid hJ
            obtain ⟨g, rfl⟩ := e0 (hdp 0 (by kernel_rfl))
            obtain rfl := e3 (hdp 3 (by kernel_rfl))
            have E1 := Lib.hid e1; have E2 := Lib.hid e2; have E5 := Lib.hid e5; have E6 := Lib.hid e6
            clear hcl hdp hW hC hJ e0 e1 e2 e3 e4 e5 e6
            refine wpOp_step rfl (fun K hK => ?_)
            go_simp
            exact hK _ _ ⟨_, _, _, _, _, _, _, rfl, (fun _ => ⟨_, rfl⟩), (fun h => E1.out (by simpa [upOn] using h)), (fun h => E2.out (by simpa [upOn] using h)), (fun _ => rfl), (fun _ => ⟨_, rfl, rfl⟩), (fun h => E5.out (by simpa [upOn] using h)), (fun h => E6.out (by simpa [upOn] using h)), HW.out, HC.out, (fun h g hg j hj => HJ.out (by simpa [upOn] using h) g hg j hj)⟩
          · have HW := Lib.hid hW; have HC := Lib.hid hC; have HJ := Lib.hid hJ
            have l0 : L 0 = true := hcl 4 0 (hdp 4 (by kernel_rfl)) (by kernel_rfl)
            obtain ⟨g, rfl, rfl⟩ := e4 (hdp 4 (by kernel_rfl))
            have E0 := Lib.hid e0; have E1 := Lib.hid e1; have E2 := Lib.hid e2; have E3 := Lib.hid e3; have E6 := Lib.hid e6
            clear hcl hdp hW hC hJ e0 e1 e2 e3 e4 e5 e6
            refine wpOp_step rfl (fun K hK => ?_)
            have kj := HJ.out l0 g rfl 3 (by omega)
            go_simp
            exact hK _ _ ⟨_, _, _, _, _, _, _, rfl, (fun h => E0.out (by simpa [upOn] using h)), (fun h => E1.out (by simpa [upOn] using h)), (fun h => E2.out (by simpa [upOn] using h)), (fun h => E3.out (by simpa [upOn] using h)), (fun _ => ⟨_, rfl, rfl⟩), (fun _ => rfl), (fun h => E6.out (by simpa [upOn] using h)), HW.out, HC.out, (fun h g hg j hj => HJ.out (by simpa [upOn] using h) g hg j hj)⟩
          · have HW := Lib.hid hW; have HC := Lib.hid hC; have HJ := Lib.hid hJ
            obtain rfl := e5 (hdp 5 (by kernel_rfl))
            have E0 := Lib.hid e0; have E1 := Lib.hid e1; have E2 := Lib.hid e2; have E3 := Lib.hid e3; have E4 := Lib.hid e4
            clear hcl hdp hW hC hJ e0 e1 e2 e3 e4 e5 e6
            refine wpOp_step rfl (fun K hK => ?_)
            go_simp
            exact hK _ _ ⟨_, _, _, _, _, _, _, rfl, (fun h => E0.out (by simpa [upOn] using h)), (fun h => E1.out (by simpa [upOn] using h)), (fun h => E2.out (by simpa [upOn] using h)), (fun h => E3.out (by simpa [upOn] using h)), (fun h => E4.out (by simpa [upOn] using h)), (fun _ => rfl), (fun _ => rfl), HW.out, HC.out, (fun h g hg j hj => HJ.out (by simpa [upOn] using h) g hg j hj)⟩
        case fin =>
          rintro L a' w' hall ⟨y0, y1, y2, y3, y4, y5, y6, rfl, e0, e1, e2, e3, e4, e5, e6, hW, -, -⟩
          obtain ⟨g, rfl, rfl⟩ := e4 (hall 4 (by omega))
          obtain rfl := e1 (hall 1 (by omega))
          obtain rfl := e2 (hall 2 (by omega))
          obtain rfl := e3 (hall 3 (by omega))
          obtain rfl := e5 (hall 5 (by omega))
          obtain rfl := e6 (hall 6 (by omega))
          exact hin.out _ _ ⟨g, rfl, hW⟩
    · intro e a' W' hE0
      have hen : e = Exit.normal := by cases e <;> first | rfl | exact hE0.elim
      subst hen
      obtain ⟨g, rfl, hb⟩ := hout.out _ _ hE0
      have HB2 := Lib.hid (HB1.out.trans (hb.mono HB1.out.size))
      have hq2 := (hb.block _ (Array.getElem?_eq_some_iff.1 HQ.out).1).trans HQ.out
      have k0 : W'.cell? ⟨w.heap.size, 0, none⟩ = some (.int .i64 4) := by rw [World.cell?, hq2]; rfl
      have k1 : W'.cell? ⟨w.heap.size, 1, none⟩ = some (.string (S a.name)) := by rw [World.cell?, hq2]; rfl
      have k2 : W'.cell? ⟨w.heap.size, 2, none⟩ = some (.slice bA bn bc) := by rw [World.cell?, hq2]; rfl
      have k3 : W'.cell? ⟨w.heap.size, 3, none⟩ = some (.slice nA nn nc) := by rw [World.cell?, hq2]; rfl
      have k4 : W'.cell? ⟨w.heap.size, 4, none⟩ = some (.int .i64 a.mem) := by rw [World.cell?, hq2]; rfl
      have k5 : W'.cell? ⟨w.heap.size, 5, none⟩ = some (.int .i64 a.fuel) := by rw [World.cell?, hq2]; rfl
      clear hin hout hE0 hb hq2 c0 HW1 hr1 HQ
      obtain ⟨wd, hwd⟩ : ∃ wd, wd = actWs.getD 3 [] := ⟨_, rfl⟩
      have HWD : Hid (wd = wBuild) := Lib.hid hwd
      have hwl : wd.length ≤ 10 := by rw [hwd]; decide
      rw [← hwd]
      clear hwd
      obtain ⟨g1, g2, g3, g4⟩ := may_len HMM.out
      have hx1 := hxT_len a.bytes
      have hx2 : (chs a.bytes).length = a.bytes.length := by simp [chs]
      have hi1 := Lib.itoa_length_le a.mem HA.out.hm.1 HA.out.hm.2
      have hi2 := Lib.itoa_length_le a.fuel HA.out.hf.1 HA.out.hf.2
      have sw : (S wd).size ≤ 10 := by rw [S_size]; exact hwl
      have sn : (S a.name).size ≤ 31 := by rw [S_size]; exact g1
      clear hwl g1 g2 g3 g4 hx1 hx2 hi1 hi2
      go_wp2_with fail
      go_ret
      exact ⟨ret_B (by show S wd ++ S [32] ++ S a.name = _; rw [← S_app, ← S_app]; unfold Ac.txt; rw [← HKD.out, HWD.out]; simp), HB2.out⟩
  · obtain ⟨Post, hin, hout⟩ : ∃ Post : Act → World → Prop, Hid (∀ a' W', (∃ g, a' = { tmps := List.toArray ((.agg #[.int .i64 5, .string (S a.name), .slice bA bn bc, .slice nA nn nc, .int .i64 a.mem, .int .i64 a.fuel]) :: (.pointer (some ⟨w.heap.size, 0, none⟩)) :: (.string ⟨#[]⟩) :: (.string (S (actWs.getD 4 []))) :: undef :: (.slice (some ⟨g, 0, none⟩) 7 7) :: (.pointer (some ⟨w.heap.size, 0, none⟩)) :: (.int .i64 5) :: (.int .i64 4) :: (.pointer (some ⟨g, 4, none⟩)) :: (.string (S (actWs.getD 4 []))) :: undef :: undef :: undef :: undef :: undef :: undef :: undef :: undef :: undef :: undef :: undef :: undef :: undef :: undef :: undef :: undef :: undef :: undef :: undef :: undef :: undef :: undef :: undef :: undef :: undef :: undef :: undef :: undef :: undef :: undef :: undef :: undef :: undef :: undef :: undef :: undef :: undef :: undef :: undef :: undef :: undef :: undef :: undef :: undef :: undef :: undef :: undef :: undef :: undef :: undef :: undef :: undef :: undef :: undef :: undef :: undef :: undef :: undef :: undef :: undef :: undef :: undef :: undef :: undef :: []), defers := [] } ∧ Below W1.heap.size W1 W') → Post a' W') ∧ Hid (∀ a' W', Post a' W' → (∃ g, a' = { tmps := List.toArray ((.agg #[.int .i64 5, .string (S a.name), .slice bA bn bc, .slice nA nn nc, .int .i64 a.mem, .int .i64 a.fuel]) :: (.pointer (some ⟨w.heap.size, 0, none⟩)) :: (.string ⟨#[]⟩) :: (.string (S (actWs.getD 4 []))) :: undef :: (.slice (some ⟨g, 0, none⟩) 7 7) :: (.pointer (some ⟨w.heap.size, 0, none⟩)) :: (.int .i64 5) :: (.int .i64 4) :: (.pointer (some ⟨g, 4, none⟩)) :: (.string (S (actWs.getD 4 []))) :: undef :: undef :: undef :: undef :: undef :: undef :: undef :: undef :: undef :: undef :: undef :: undef :: undef :: undef :: undef :: undef :: undef :: undef :: undef :: undef :: undef :: undef :: undef :: undef :: undef :: undef :: undef :: undef :: undef :: undef :: undef :: undef :: undef :: undef :: undef :: undef :: undef :: undef :: undef :: undef :: undef :: undef :: undef :: undef :: undef :: undef :: undef :: undef :: undef :: undef :: undef :: undef :: undef :: undef :: undef :: undef :: undef :: undef :: undef :: undef :: undef :: undef :: undef :: undef :: []), defers := [] } ∧ Below W1.heap.size W1 W')) := ⟨_, Lib.hid fun _ _ h => h, Lib.hid fun _ _ h => h⟩
    refine Code.wp_mono (Q := Exit.then Post (fun _ _ _ => False)) ?_ ?_
    rotate_left
    · as_aux_lemma =>
        refine wp_region_inv' 7 rfl (fun L a' w' => ∃ y0 y1 y2 y3 y4 y5 y6 : Value, a' = { tmps := List.toArray ((.agg #[.int .i64 5, .string (S a.name), .slice bA bn bc, .slice nA nn nc, .int .i64 a.mem, .int .i64 a.fuel]) :: (.pointer (some ⟨w.heap.size, 0, none⟩)) :: (.string ⟨#[]⟩) :: y6 :: undef :: y0 :: y1 :: y2 :: y3 :: y4 :: y5 :: undef :: undef :: undef :: undef :: undef :: undef :: undef :: undef :: undef :: undef :: undef :: undef :: undef :: undef :: undef :: undef :: undef :: undef :: undef :: undef :: undef :: undef :: undef :: undef :: undef :: undef :: undef :: undef :: undef :: undef :: undef :: undef :: undef :: undef :: undef :: undef :: undef :: undef :: undef :: undef :: undef :: undef :: undef :: undef :: undef :: undef :: undef :: undef :: undef :: undef :: undef :: undef :: undef :: undef :: undef :: undef :: undef :: undef :: undef :: undef :: undef :: undef :: undef :: undef :: []), defers := [] } ∧ (L 0 = true → ∃ g, y0 = .slice (some ⟨g, 0, none⟩) 7 7) ∧ (L 1 = true → y1 = .pointer (some ⟨w.heap.size, 0, none⟩)) ∧ (L 2 = true → y2 = .int .i64 5) ∧ (L 3 = true → y3 = .int .i64 4) ∧ (L 4 = true → ∃ g, y0 = .slice (some ⟨g, 0, none⟩) 7 7 ∧ y4 = .pointer (some ⟨g, 4, none⟩)) ∧ (L 5 = true → y5 = .string (S (actWs.getD 4 []))) ∧ (L 6 = true → y6 = .string (S (actWs.getD 4 []))) ∧ Below W1.heap.size W1 w' ∧ w'.cell? ⟨w.heap.size, 0, none⟩ = some (.int .i64 5) ∧ (L 0 = true → ∀ g, y0 = .slice (some ⟨g, 0, none⟩) 7 7 → ∀ j, j < 7 → w'.cell? ⟨g, j, none⟩ = some (.string (S (actWs.getD j []))))) (by kernel_rfl) (by kernel_rfl) ?h0 ?step ?fin
        case h0 => exact ⟨undef, undef, undef, undef, undef, undef, undef, rfl, (fun e => by simp at e), (fun e => by simp at e), (fun e => by simp at e), (fun e => by simp at e), (fun e => by simp at e), (fun e => by simp at e), (fun e => by simp at e), hr1, c0, fun e => by simp at e⟩
        case step =>
          rintro i hi L a' w' hLi hcl hdp ⟨y0, y1, y2, y3, y4, y5, y6, rfl, e0, e1, e2, e3, e4, e5, e6, hW, hC, hJ⟩
          have hi2 : i = 0 ∨ i = 1 ∨ i = 2 ∨ i = 3 ∨ i = 4 ∨ i = 5 ∨ i = 6 := by omega
          rcases hi2 with rfl | rfl | rfl | rfl | rfl | rfl | rfl
          · have HW := Lib.hid hW; have HC := Lib.hid hC; have HJ := Lib.hid hJ
            have l4 : L 4 = false := by
              cases h : L 4
              · rfl
              · exact absurd (hcl 4 0 h (by kernel_rfl)) (by rw [hLi]; decide)
            have E1 := Lib.hid e1; have E2 := Lib.hid e2; have E3 := Lib.hid e3; have E4 := Lib.hid e4; have E5 := Lib.hid e5; have E6 := Lib.hid e6
            clear hcl hdp hW hC hJ e0 e1 e2 e3 e4 e5 e6
            refine wpOp_step rfl (fun K hK => ?_)
            go_simp
            refine (HW1.out _ HW.out).mono ?_
            rintro e v1 ⟨g, rfl, hb1, hc1, hj1⟩
            exact hK _ _ ⟨_, _, _, _, _, _, _, rfl, (fun _ => ⟨_, rfl⟩), (fun h => E1.out (by simpa [upOn] using h)), (fun h => E2.out (by simpa [upOn] using h)), (fun h => E3.out (by simpa [upOn] using h)), (fun h => by simp [upOn, l4] at h), (fun h => E5.out (by simpa [upOn] using h)), (fun h => E6.out (by simpa [upOn] using h)), hb1, hc1, (fun _ g' hg j hj => by cases hg; exact hj1 j hj)⟩
          · have HW := Lib.hid hW; have HC := Lib.hid hC; have HJ := Lib.hid hJ
            have E0 := Lib.hid e0; have E2 := Lib.hid e2; have E3 := Lib.hid e3; have E4 := Lib.hid e4; have E5 := Lib.hid e5; have E6 := Lib.hid e6
            clear hcl hdp hW hC hJ e0 e1 e2 e3 e4 e5 e6
            refine wpOp_step rfl (fun K hK => ?_)
            go_simp
            exact hK _ _ ⟨_, _, _, _, _, _, _, rfl, (fun h => E0.out (by simpa [upOn] using h)), (fun _ => rfl), (fun h => E2.out (by simpa [upOn] using h)), (fun h => E3.out (by simpa [upOn] using h)), (fun h => E4.out (by simpa [upOn] using h)), (fun h => E5.out (by simpa [upOn] using h)), (fun h => E6.out (by simpa [upOn] using h)), HW.out, HC.out, (fun h g hg j hj => HJ.out (by simpa [upOn] using h) g hg j hj)⟩
          · have HW := Lib.hid hW; have HC := Lib.hid hC; have HJ := Lib.hid hJ
            obtain rfl := e1 (hdp 1 (by kernel_rfl))
            have E0 := Lib.hid e0; have E3 := Lib.hid e3; have E4 := Lib.hid e4; have E5 := Lib.hid e5; have E6 := Lib.hid e6
            clear hcl hdp hW hC hJ e0 e1 e2 e3 e4 e5 e6
            refine wpOp_step rfl (fun K hK => ?_)
            have kc := HC.out
            go_simp
            exact hK _ _ ⟨_, _, _, _, _, _, _, rfl, (fun h => E0.out (by simpa [upOn] using h)), (fun _ => rfl), (fun _ => rfl), (fun h => E3.out (by simpa [upOn] using h)), (fun h => E4.out (by simpa [upOn] using h)), (fun h => E5.out (by simpa [upOn] using h)), (fun h => E6.out (by simpa [upOn] using h)), HW.out, HC.out, (fun h g hg j hj => HJ.out (by simpa [upOn] using h) g hg j hj)⟩
          · have HW := Lib.hid hW; have HC := Lib.hid hC; have HJ := Lib.hid hJ
            obtain rfl := e2 (hdp 2 (by kernel_rfl))
            have E0 := Lib.hid e0; have E1 := Lib.hid e1; have E4 := Lib.hid e4; have E5 := Lib.hid e5; have E6 := Lib.hid e6
            clear hcl hdp hW hC hJ e0 e1 e2 e3 e4 e5 e6
            refine wpOp_step rfl (fun K hK => ?_)
            go_simp
            exact hK _ _ ⟨_, _, _, _, _, _, _, rfl, (fun h => E0.out (by simpa [upOn] using h)), (fun h => E1.out (by simpa [upOn] using h)), (fun _ => rfl), (fun _ => rfl), (fun h => E4.out (by simpa [upOn] using h)), (fun h => E5.out (by simpa [upOn] using h)), (fun h => E6.out (by simpa [upOn] using h)), HW.out, HC.out, (fun h g hg j hj => HJ.out (by simpa [upOn] using h) g hg j hj)⟩
          · have HW := Lib.hid hW; have HC := Lib.hid hC; have HJ := Lib.hid hJ
            obtain ⟨g, rfl⟩ := e0 (hdp 0 (by kernel_rfl))
            obtain rfl := e3 (hdp 3 (by kernel_rfl))
            have E1 := Lib.hid e1; have E2 := Lib.hid e2; have E5 := Lib.hid e5; have E6 := Lib.hid e6
            clear hcl hdp hW hC hJ e0 e1 e2 e3 e4 e5 e6
            refine wpOp_step rfl (fun K hK => ?_)
            go_simp
            exact hK _ _ ⟨_, _, _, _, _, _, _, rfl, (fun _ => ⟨_, rfl⟩), (fun h => E1.out (by simpa [upOn] using h)), (fun h => E2.out (by simpa [upOn] using h)), (fun _ => rfl), (fun _ => ⟨_, rfl, rfl⟩), (fun h => E5.out (by simpa [upOn] using h)), (fun h => E6.out (by simpa [upOn] using h)), HW.out, HC.out, (fun h g hg j hj => HJ.out (by simpa [upOn] using h) g hg j hj)⟩
          · have HW := Lib.hid hW; have HC := Lib.hid hC; have HJ := Lib.hid hJ
            have l0 : L 0 = true := hcl 4 0 (hdp 4 (by kernel_rfl)) (by kernel_rfl)
            obtain ⟨g, rfl, rfl⟩ := e4 (hdp 4 (by kernel_rfl))
            have E0 := Lib.hid e0; have E1 := Lib.hid e1; have E2 := Lib.hid e2; have E3 := Lib.hid e3; have E6 := Lib.hid e6
            clear hcl hdp hW hC hJ e0 e1 e2 e3 e4 e5 e6
            refine wpOp_step rfl (fun K hK => ?_)
            have kj := HJ.out l0 g rfl 4 (by omega)
            go_simp
            exact hK _ _ ⟨_, _, _, _, _, _, _, rfl, (fun h => E0.out (by simpa [upOn] using h)), (fun h => E1.out (by simpa [upOn] using h)), (fun h => E2.out (by simpa [upOn] using h)), (fun h => E3.out (by simpa [upOn] using h)), (fun _ => ⟨_, rfl, rfl⟩), (fun _ => rfl), (fun h => E6.out (by simpa [upOn] using h)), HW.out, HC.out, (fun h g hg j hj => HJ.out (by simpa [upOn] using h) g hg j hj)⟩
          · have HW := Lib.hid hW; have HC := Lib.hid hC; have HJ := Lib.hid hJ
            obtain rfl := e5 (hdp 5 (by kernel_rfl))
            have E0 := Lib.hid e0; have E1 := Lib.hid e1; have E2 := Lib.hid e2; have E3 := Lib.hid e3; have E4 := Lib.hid e4
            clear hcl hdp hW hC hJ e0 e1 e2 e3 e4 e5 e6
            refine wpOp_step rfl (fun K hK => ?_)
            go_simp
            exact hK _ _ ⟨_, _, _, _, _, _, _, rfl, (fun h => E0.out (by simpa [upOn] using h)), (fun h => E1.out (by simpa [upOn] using h)), (fun h => E2.out (by simpa [upOn] using h)), (fun h => E3.out (by simpa [upOn] using h)), (fun h => E4.out (by simpa [upOn] using h)), (fun _ => rfl), (fun _ => rfl), HW.out, HC.out, (fun h g hg j hj => HJ.out (by simpa [upOn] using h) g hg j hj)⟩
        case fin =>
          rintro L a' w' hall ⟨y0, y1, y2, y3, y4, y5, y6, rfl, e0, e1, e2, e3, e4, e5, e6, hW, -, -⟩
          obtain ⟨g, rfl, rfl⟩ := e4 (hall 4 (by omega))
          obtain rfl := e1 (hall 1 (by omega))
          obtain rfl := e2 (hall 2 (by omega))
          obtain rfl := e3 (hall 3 (by omega))
          obtain rfl := e5 (hall 5 (by omega))
          obtain rfl := e6 (hall 6 (by omega))
          exact hin.out _ _ ⟨g, rfl, hW⟩
    · intro e a' W' hE0
      have hen : e = Exit.normal := by cases e <;> first | rfl | exact hE0.elim
      subst hen
      obtain ⟨g, rfl, hb⟩ := hout.out _ _ hE0
      have HB2 := Lib.hid (HB1.out.trans (hb.mono HB1.out.size))
      have hq2 := (hb.block _ (Array.getElem?_eq_some_iff.1 HQ.out).1).trans HQ.out
      have k0 : W'.cell? ⟨w.heap.size, 0, none⟩ = some (.int .i64 5) := by rw [World.cell?, hq2]; rfl
      have k1 : W'.cell? ⟨w.heap.size, 1, none⟩ = some (.string (S a.name)) := by rw [World.cell?, hq2]; rfl
      have k2 : W'.cell? ⟨w.heap.size, 2, none⟩ = some (.slice bA bn bc) := by rw [World.cell?, hq2]; rfl
      have k3 : W'.cell? ⟨w.heap.size, 3, none⟩ = some (.slice nA nn nc) := by rw [World.cell?, hq2]; rfl
      have k4 : W'.cell? ⟨w.heap.size, 4, none⟩ = some (.int .i64 a.mem) := by rw [World.cell?, hq2]; rfl
      have k5 : W'.cell? ⟨w.heap.size, 5, none⟩ = some (.int .i64 a.fuel) := by rw [World.cell?, hq2]; rfl
      clear hin hout hE0 hb hq2 c0 HW1 hr1 HQ
      obtain ⟨wd, hwd⟩ : ∃ wd, wd = actWs.getD 4 [] := ⟨_, rfl⟩
      have HWD : Hid (wd = wRun) := Lib.hid hwd
      have hwl : wd.length ≤ 10 := by rw [hwd]; decide
      rw [← hwd]
      clear hwd
      obtain ⟨g1, g2, g3, g4⟩ := may_len HMM.out
      have hx1 := hxT_len a.bytes
      have hx2 : (chs a.bytes).length = a.bytes.length := by simp [chs]
      have hi1 := Lib.itoa_length_le a.mem HA.out.hm.1 HA.out.hm.2
      have hi2 := Lib.itoa_length_le a.fuel HA.out.hf.1 HA.out.hf.2
      have sw : (S wd).size ≤ 10 := by rw [S_size]; exact hwl
      have sn : (S a.name).size ≤ 31 := by rw [S_size]; exact g1
      have sx : (S (Lib.itoa a.mem)).size ≤ 200000 := by rw [S_size]; omega
      have sy : (S (Lib.itoa a.fuel)).size ≤ 200000 := by rw [S_size]; omega
      clear hwl g1 g2 g3 g4 hx1 hx2 hi1 hi2
      have HP5 : Hid (∀ V : World, Below W'.heap.size W' V → Below W'.heap.size W' V ∧ V.cell? ⟨w.heap.size, 4, none⟩ = some (.int .i64 a.mem) ∧ V.cell? ⟨w.heap.size, 5, none⟩ = some (.int .i64 a.fuel)) := Lib.hid fun V hV => ⟨hV, (hV.cell (World.block_lt_of_cell? _ _ k4)).trans k4, (hV.cell (World.block_lt_of_cell? _ _ k5)).trans k5⟩
      have HIM : Hid (∀ V : World, Below W'.heap.size W' V → Calls Tryz.prog 41 #[.int .i64 a.mem] V fun e V' => e = .returned (.string (S (Lib.itoa a.mem))) ∧ Below W'.heap.size W' V' ∧ V'.cell? ⟨w.heap.size, 4, none⟩ = some (.int .i64 a.mem) ∧ V'.cell? ⟨w.heap.size, 5, none⟩ = some (.int .i64 a.fuel)) := Lib.hid fun V hV => (Tryz.strconv_Itoa a.mem HA.out.hm.1 HA.out.hm.2 V (Tab.below HT.out (HB2.out.trans (hV.mono HB2.out.size)))).mono fun e V' ⟨he, k, os, hw⟩ => ⟨he, HP5.out _ (hV.trans (by rw [hw]; exact (grow_below _ _ _).mono hV.size))⟩
      have HIF : Hid (∀ V : World, Below W'.heap.size W' V → Calls Tryz.prog 41 #[.int .i64 a.fuel] V fun e V' => e = .returned (.string (S (Lib.itoa a.fuel))) ∧ Below W'.heap.size W' V' ∧ V'.cell? ⟨w.heap.size, 4, none⟩ = some (.int .i64 a.mem) ∧ V'.cell? ⟨w.heap.size, 5, none⟩ = some (.int .i64 a.fuel)) := Lib.hid fun V hV => (Tryz.strconv_Itoa a.fuel HA.out.hf.1 HA.out.hf.2 V (Tab.below HT.out (HB2.out.trans (hV.mono HB2.out.size)))).mono fun e V' ⟨he, k, os, hw⟩ => ⟨he, HP5.out _ (hV.trans (by rw [hw]; exact (grow_below _ _ _).mono hV.size))⟩
      have hr2 : Below W'.heap.size W' W'.drew := (Below.refl _ _).drew
      obtain ⟨hr3, k4d, k5d⟩ := HP5.out _ hr2
      go_wp2_with fail
      have ns0 : ¬ 9223372036854775807 < (S wd).size + 1 + (S a.name).size + 1 := by omega
      have ns1 : ¬ 9223372036854775807 < (S wd).size + 1 + (S a.name).size + 1 + (S (Lib.itoa a.mem)).size := by omega
      have ns2 : ¬ 9223372036854775807 < (S wd).size + 1 + (S a.name).size + 1 + (S (Lib.itoa a.mem)).size + 1 := by omega
      have ns3 : ¬ 9223372036854775807 < (S wd).size + 1 + (S a.name).size + 1 + (S (Lib.itoa a.mem)).size + 1 + (S (Lib.itoa a.fuel)).size := by omega
      go_region_held3 (fun V => Below W'.heap.size W' V ∧ V.cell? ⟨w.heap.size, 4, none⟩ = some (.int .i64 a.mem) ∧ V.cell? ⟨w.heap.size, 5, none⟩ = some (.int .i64 a.fuel)) (first | exact ⟨hr2, k4d, k5d⟩ | exact ⟨hbw, hcw, hdw⟩ | go_keep) ((go_at_call 41; (first | (with_reducible refine (HIM.out _ (by first | exact hr2 | assumption)).mono ?_) | (with_reducible refine (HIF.out _ (by first | exact hr2 | assumption)).mono ?_)); rintro e w' ⟨rfl, hbw, hcw, hdw⟩))
      all_goals go_wp2_with fail
      all_goals go_ret
      all_goals exact ⟨ret_B (by show S wd ++ S [32] ++ S a.name ++ S [32] ++ S (Lib.itoa a.mem) ++ S [32] ++ S (Lib.itoa a.fuel) = _; rw [← S_app, ← S_app, ← S_app, ← S_app, ← S_app, ← S_app]; unfold Ac.txt; rw [← HKD.out, HWD.out]; simp), HB2.out.trans (hbw.mono HB2.out.size)⟩
  · obtain ⟨Post, hin, hout⟩ : ∃ Post : Act → World → Prop, Hid (∀ a' W', (∃ g, a' = { tmps := List.toArray ((.agg #[.int .i64 6, .string (S a.name), .slice bA bn bc, .slice nA nn nc, .int .i64 a.mem, .int .i64 a.fuel]) :: (.pointer (some ⟨w.heap.size, 0, none⟩)) :: (.string ⟨#[]⟩) :: (.string (S (actWs.getD 5 []))) :: undef :: (.slice (some ⟨g, 0, none⟩) 7 7) :: (.pointer (some ⟨w.heap.size, 0, none⟩)) :: (.int .i64 6) :: (.int .i64 5) :: (.pointer (some ⟨g, 5, none⟩)) :: (.string (S (actWs.getD 5 []))) :: undef :: undef :: undef :: undef :: undef :: undef :: undef :: undef :: undef :: undef :: undef :: undef :: undef :: undef :: undef :: undef :: undef :: undef :: undef :: undef :: undef :: undef :: undef :: undef :: undef :: undef :: undef :: undef :: undef :: undef :: undef :: undef :: undef :: undef :: undef :: undef :: undef :: undef :: undef :: undef :: undef :: undef :: undef :: undef :: undef :: undef :: undef :: undef :: undef :: undef :: undef :: undef :: undef :: undef :: undef :: undef :: undef :: undef :: undef :: undef :: undef :: undef :: undef :: undef :: []), defers := [] } ∧ Below W1.heap.size W1 W') → Post a' W') ∧ Hid (∀ a' W', Post a' W' → (∃ g, a' = { tmps := List.toArray ((.agg #[.int .i64 6, .string (S a.name), .slice bA bn bc, .slice nA nn nc, .int .i64 a.mem, .int .i64 a.fuel]) :: (.pointer (some ⟨w.heap.size, 0, none⟩)) :: (.string ⟨#[]⟩) :: (.string (S (actWs.getD 5 []))) :: undef :: (.slice (some ⟨g, 0, none⟩) 7 7) :: (.pointer (some ⟨w.heap.size, 0, none⟩)) :: (.int .i64 6) :: (.int .i64 5) :: (.pointer (some ⟨g, 5, none⟩)) :: (.string (S (actWs.getD 5 []))) :: undef :: undef :: undef :: undef :: undef :: undef :: undef :: undef :: undef :: undef :: undef :: undef :: undef :: undef :: undef :: undef :: undef :: undef :: undef :: undef :: undef :: undef :: undef :: undef :: undef :: undef :: undef :: undef :: undef :: undef :: undef :: undef :: undef :: undef :: undef :: undef :: undef :: undef :: undef :: undef :: undef :: undef :: undef :: undef :: undef :: undef :: undef :: undef :: undef :: undef :: undef :: undef :: undef :: undef :: undef :: undef :: undef :: undef :: undef :: undef :: undef :: undef :: undef :: undef :: []), defers := [] } ∧ Below W1.heap.size W1 W')) := ⟨_, Lib.hid fun _ _ h => h, Lib.hid fun _ _ h => h⟩
    refine Code.wp_mono (Q := Exit.then Post (fun _ _ _ => False)) ?_ ?_
    rotate_left
    · as_aux_lemma =>
        refine wp_region_inv' 7 rfl (fun L a' w' => ∃ y0 y1 y2 y3 y4 y5 y6 : Value, a' = { tmps := List.toArray ((.agg #[.int .i64 6, .string (S a.name), .slice bA bn bc, .slice nA nn nc, .int .i64 a.mem, .int .i64 a.fuel]) :: (.pointer (some ⟨w.heap.size, 0, none⟩)) :: (.string ⟨#[]⟩) :: y6 :: undef :: y0 :: y1 :: y2 :: y3 :: y4 :: y5 :: undef :: undef :: undef :: undef :: undef :: undef :: undef :: undef :: undef :: undef :: undef :: undef :: undef :: undef :: undef :: undef :: undef :: undef :: undef :: undef :: undef :: undef :: undef :: undef :: undef :: undef :: undef :: undef :: undef :: undef :: undef :: undef :: undef :: undef :: undef :: undef :: undef :: undef :: undef :: undef :: undef :: undef :: undef :: undef :: undef :: undef :: undef :: undef :: undef :: undef :: undef :: undef :: undef :: undef :: undef :: undef :: undef :: undef :: undef :: undef :: undef :: undef :: undef :: undef :: []), defers := [] } ∧ (L 0 = true → ∃ g, y0 = .slice (some ⟨g, 0, none⟩) 7 7) ∧ (L 1 = true → y1 = .pointer (some ⟨w.heap.size, 0, none⟩)) ∧ (L 2 = true → y2 = .int .i64 6) ∧ (L 3 = true → y3 = .int .i64 5) ∧ (L 4 = true → ∃ g, y0 = .slice (some ⟨g, 0, none⟩) 7 7 ∧ y4 = .pointer (some ⟨g, 5, none⟩)) ∧ (L 5 = true → y5 = .string (S (actWs.getD 5 []))) ∧ (L 6 = true → y6 = .string (S (actWs.getD 5 []))) ∧ Below W1.heap.size W1 w' ∧ w'.cell? ⟨w.heap.size, 0, none⟩ = some (.int .i64 6) ∧ (L 0 = true → ∀ g, y0 = .slice (some ⟨g, 0, none⟩) 7 7 → ∀ j, j < 7 → w'.cell? ⟨g, j, none⟩ = some (.string (S (actWs.getD j []))))) (by kernel_rfl) (by kernel_rfl) ?h0 ?step ?fin
        case h0 => exact ⟨undef, undef, undef, undef, undef, undef, undef, rfl, (fun e => by simp at e), (fun e => by simp at e), (fun e => by simp at e), (fun e => by simp at e), (fun e => by simp at e), (fun e => by simp at e), (fun e => by simp at e), hr1, c0, fun e => by simp at e⟩
        case step =>
          rintro i hi L a' w' hLi hcl hdp ⟨y0, y1, y2, y3, y4, y5, y6, rfl, e0, e1, e2, e3, e4, e5, e6, hW, hC, hJ⟩
          have hi2 : i = 0 ∨ i = 1 ∨ i = 2 ∨ i = 3 ∨ i = 4 ∨ i = 5 ∨ i = 6 := by omega
          rcases hi2 with rfl | rfl | rfl | rfl | rfl | rfl | rfl
          · have HW := Lib.hid hW; have HC := Lib.hid hC; have HJ := Lib.hid hJ
            have l4 : L 4 = false := by
              cases h : L 4
              · rfl
              · exact absurd (hcl 4 0 h (by kernel_rfl)) (by rw [hLi]; decide)
            have E1 := Lib.hid e1; have E2 := Lib.hid e2; have E3 := Lib.hid e3; have E4 := Lib.hid e4; have E5 := Lib.hid e5; have E6 := Lib.hid e6
            clear hcl hdp hW hC hJ e0 e1 e2 e3 e4 e5 e6
            refine wpOp_step rfl (fun K hK => ?_)
            go_simp
            refine (HW1.out _ HW.out).mono ?_
            rintro e v1 ⟨g, rfl, hb1, hc1, hj1⟩
            exact hK _ _ ⟨_, _, _, _, _, _, _, rfl, (fun _ => ⟨_, rfl⟩), (fun h => E1.out (by simpa [upOn] using h)), (fun h => E2.out (by simpa [upOn] using h)), (fun h => E3.out (by simpa [upOn] using h)), (fun h => by simp [upOn, l4] at h), (fun h => E5.out (by simpa [upOn] using h)), (fun h => E6.out (by simpa [upOn] using h)), hb1, hc1, (fun _ g' hg j hj => by cases hg; exact hj1 j hj)⟩
          · have HW := Lib.hid hW; have HC := Lib.hid hC; have HJ := Lib.hid hJ
            have E0 := Lib.hid e0; have E2 := Lib.hid e2; have E3 := Lib.hid e3; have E4 := Lib.hid e4; have E5 := Lib.hid e5; have E6 := Lib.hid e6
            clear hcl hdp hW hC hJ e0 e1 e2 e3 e4 e5 e6
            refine wpOp_step rfl (fun K hK => ?_)
            go_simp
            exact hK _ _ ⟨_, _, _, _, _, _, _, rfl, (fun h => E0.out (by simpa [upOn] using h)), (fun _ => rfl), (fun h => E2.out (by simpa [upOn] using h)), (fun h => E3.out (by simpa [upOn] using h)), (fun h => E4.out (by simpa [upOn] using h)), (fun h => E5.out (by simpa [upOn] using h)), (fun h => E6.out (by simpa [upOn] using h)), HW.out, HC.out, (fun h g hg j hj => HJ.out (by simpa [upOn] using h) g hg j hj)⟩
          · have HW := Lib.hid hW; have HC := Lib.hid hC; have HJ := Lib.hid hJ
            obtain rfl := e1 (hdp 1 (by kernel_rfl))
            have E0 := Lib.hid e0; have E3 := Lib.hid e3; have E4 := Lib.hid e4; have E5 := Lib.hid e5; have E6 := Lib.hid e6
            clear hcl hdp hW hC hJ e0 e1 e2 e3 e4 e5 e6
            refine wpOp_step rfl (fun K hK => ?_)
            have kc := HC.out
            go_simp
            exact hK _ _ ⟨_, _, _, _, _, _, _, rfl, (fun h => E0.out (by simpa [upOn] using h)), (fun _ => rfl), (fun _ => rfl), (fun h => E3.out (by simpa [upOn] using h)), (fun h => E4.out (by simpa [upOn] using h)), (fun h => E5.out (by simpa [upOn] using h)), (fun h => E6.out (by simpa [upOn] using h)), HW.out, HC.out, (fun h g hg j hj => HJ.out (by simpa [upOn] using h) g hg j hj)⟩
          · have HW := Lib.hid hW; have HC := Lib.hid hC; have HJ := Lib.hid hJ
            obtain rfl := e2 (hdp 2 (by kernel_rfl))
            have E0 := Lib.hid e0; have E1 := Lib.hid e1; have E4 := Lib.hid e4; have E5 := Lib.hid e5; have E6 := Lib.hid e6
            clear hcl hdp hW hC hJ e0 e1 e2 e3 e4 e5 e6
            refine wpOp_step rfl (fun K hK => ?_)
            go_simp
            exact hK _ _ ⟨_, _, _, _, _, _, _, rfl, (fun h => E0.out (by simpa [upOn] using h)), (fun h => E1.out (by simpa [upOn] using h)), (fun _ => rfl), (fun _ => rfl), (fun h => E4.out (by simpa [upOn] using h)), (fun h => E5.out (by simpa [upOn] using h)), (fun h => E6.out (by simpa [upOn] using h)), HW.out, HC.out, (fun h g hg j hj => HJ.out (by simpa [upOn] using h) g hg j hj)⟩
          · have HW := Lib.hid hW; have HC := Lib.hid hC; have HJ := Lib.hid hJ
            obtain ⟨g, rfl⟩ := e0 (hdp 0 (by kernel_rfl))
            obtain rfl := e3 (hdp 3 (by kernel_rfl))
            have E1 := Lib.hid e1; have E2 := Lib.hid e2; have E5 := Lib.hid e5; have E6 := Lib.hid e6
            clear hcl hdp hW hC hJ e0 e1 e2 e3 e4 e5 e6
            refine wpOp_step rfl (fun K hK => ?_)
            go_simp
            exact hK _ _ ⟨_, _, _, _, _, _, _, rfl, (fun _ => ⟨_, rfl⟩), (fun h => E1.out (by simpa [upOn] using h)), (fun h => E2.out (by simpa [upOn] using h)), (fun _ => rfl), (fun _ => ⟨_, rfl, rfl⟩), (fun h => E5.out (by simpa [upOn] using h)), (fun h => E6.out (by simpa [upOn] using h)), HW.out, HC.out, (fun h g hg j hj => HJ.out (by simpa [upOn] using h) g hg j hj)⟩
          · have HW := Lib.hid hW; have HC := Lib.hid hC; have HJ := Lib.hid hJ
            have l0 : L 0 = true := hcl 4 0 (hdp 4 (by kernel_rfl)) (by kernel_rfl)
            obtain ⟨g, rfl, rfl⟩ := e4 (hdp 4 (by kernel_rfl))
            have E0 := Lib.hid e0; have E1 := Lib.hid e1; have E2 := Lib.hid e2; have E3 := Lib.hid e3; have E6 := Lib.hid e6
            clear hcl hdp hW hC hJ e0 e1 e2 e3 e4 e5 e6
            refine wpOp_step rfl (fun K hK => ?_)
            have kj := HJ.out l0 g rfl 5 (by omega)
            go_simp
            exact hK _ _ ⟨_, _, _, _, _, _, _, rfl, (fun h => E0.out (by simpa [upOn] using h)), (fun h => E1.out (by simpa [upOn] using h)), (fun h => E2.out (by simpa [upOn] using h)), (fun h => E3.out (by simpa [upOn] using h)), (fun _ => ⟨_, rfl, rfl⟩), (fun _ => rfl), (fun h => E6.out (by simpa [upOn] using h)), HW.out, HC.out, (fun h g hg j hj => HJ.out (by simpa [upOn] using h) g hg j hj)⟩
          · have HW := Lib.hid hW; have HC := Lib.hid hC; have HJ := Lib.hid hJ
            obtain rfl := e5 (hdp 5 (by kernel_rfl))
            have E0 := Lib.hid e0; have E1 := Lib.hid e1; have E2 := Lib.hid e2; have E3 := Lib.hid e3; have E4 := Lib.hid e4
            clear hcl hdp hW hC hJ e0 e1 e2 e3 e4 e5 e6
            refine wpOp_step rfl (fun K hK => ?_)
            go_simp
            exact hK _ _ ⟨_, _, _, _, _, _, _, rfl, (fun h => E0.out (by simpa [upOn] using h)), (fun h => E1.out (by simpa [upOn] using h)), (fun h => E2.out (by simpa [upOn] using h)), (fun h => E3.out (by simpa [upOn] using h)), (fun h => E4.out (by simpa [upOn] using h)), (fun _ => rfl), (fun _ => rfl), HW.out, HC.out, (fun h g hg j hj => HJ.out (by simpa [upOn] using h) g hg j hj)⟩
        case fin =>
          rintro L a' w' hall ⟨y0, y1, y2, y3, y4, y5, y6, rfl, e0, e1, e2, e3, e4, e5, e6, hW, -, -⟩
          obtain ⟨g, rfl, rfl⟩ := e4 (hall 4 (by omega))
          obtain rfl := e1 (hall 1 (by omega))
          obtain rfl := e2 (hall 2 (by omega))
          obtain rfl := e3 (hall 3 (by omega))
          obtain rfl := e5 (hall 5 (by omega))
          obtain rfl := e6 (hall 6 (by omega))
          exact hin.out _ _ ⟨g, rfl, hW⟩
    · intro e a' W' hE0
      have hen : e = Exit.normal := by cases e <;> first | rfl | exact hE0.elim
      subst hen
      obtain ⟨g, rfl, hb⟩ := hout.out _ _ hE0
      have HB2 := Lib.hid (HB1.out.trans (hb.mono HB1.out.size))
      have hq2 := (hb.block _ (Array.getElem?_eq_some_iff.1 HQ.out).1).trans HQ.out
      have k0 : W'.cell? ⟨w.heap.size, 0, none⟩ = some (.int .i64 6) := by rw [World.cell?, hq2]; rfl
      have k1 : W'.cell? ⟨w.heap.size, 1, none⟩ = some (.string (S a.name)) := by rw [World.cell?, hq2]; rfl
      have k2 : W'.cell? ⟨w.heap.size, 2, none⟩ = some (.slice bA bn bc) := by rw [World.cell?, hq2]; rfl
      have k3 : W'.cell? ⟨w.heap.size, 3, none⟩ = some (.slice nA nn nc) := by rw [World.cell?, hq2]; rfl
      have k4 : W'.cell? ⟨w.heap.size, 4, none⟩ = some (.int .i64 a.mem) := by rw [World.cell?, hq2]; rfl
      have k5 : W'.cell? ⟨w.heap.size, 5, none⟩ = some (.int .i64 a.fuel) := by rw [World.cell?, hq2]; rfl
      clear hin hout hE0 hb hq2 c0 HW1 hr1 HQ
      obtain ⟨wd, hwd⟩ : ∃ wd, wd = actWs.getD 5 [] := ⟨_, rfl⟩
      have HWD : Hid (wd = wMean) := Lib.hid hwd
      have hwl : wd.length ≤ 10 := by rw [hwd]; decide
      rw [← hwd]
      clear hwd
      obtain ⟨g1, g2, g3, g4⟩ := may_len HMM.out
      have hx1 := hxT_len a.bytes
      have hx2 : (chs a.bytes).length = a.bytes.length := by simp [chs]
      have hi1 := Lib.itoa_length_le a.mem HA.out.hm.1 HA.out.hm.2
      have hi2 := Lib.itoa_length_le a.fuel HA.out.hf.1 HA.out.hf.2
      have sw : (S wd).size ≤ 10 := by rw [S_size]; exact hwl
      have sn : (S a.name).size ≤ 31 := by rw [S_size]; exact g1
      have sx : (S (Lib.itoa a.mem)).size ≤ 200000 := by rw [S_size]; omega
      have sy : (S (Lib.itoa a.fuel)).size ≤ 200000 := by rw [S_size]; omega
      clear hwl g1 g2 g3 g4 hx1 hx2 hi1 hi2
      have HIF : Hid (Calls Tryz.prog 41 #[.int .i64 a.fuel] W' fun e V' => e = .returned (.string (S (Lib.itoa a.fuel))) ∧ Below W'.heap.size W' V') := Lib.hid ((Tryz.strconv_Itoa a.fuel HA.out.hf.1 HA.out.hf.2 W' (Tab.below HT.out HB2.out)).mono fun e V' ⟨he, k, os, hw⟩ => ⟨he, by rw [hw]; exact grow_below _ _ _⟩)
      go_wp2_with (go_at_call 41; (with_reducible refine HIF.out.mono ?_); rintro e w3 ⟨rfl, hb⟩; have HB3 := Lib.hid (HB2.out.trans (hb.mono HB2.out.size)); have k3' := (hb.cell (World.block_lt_of_cell? _ _ k3)).trans k3; have k0' := (hb.cell (World.block_lt_of_cell? _ _ k0)).trans k0; clear hb)
      have HLEN : Hid (a.names.length = nn) := Lib.hid HA.out.hnr.1
      have HB31 : Hid (∀ j, (wd ++ [32] ++ a.name ++ [32] ++ Lib.itoa a.fuel ++ bls (a.names.take j)).length ≤ 1000) := Lib.hid fun j => by
        have h1 := bls_len (a.names.take j) (fun x hx => (may_len HMM.out).2.2.2 x (List.mem_of_mem_take hx))
        have h2 : (a.names.take j).length ≤ 16 := by have := (may_len HMM.out).2.2.1; rw [List.length_take]; omega
        have h3 : wd.length ≤ 10 := by rw [HWD.out]; decide
        have h4 := (may_len HMM.out).1
        have h5 := Lib.itoa_length_le a.fuel HA.out.hf.1 HA.out.hf.2
        simp only [List.length_append, List.length_cons, List.length_nil]
        omega
      have hnn16 : nn ≤ 16 := by have := HLEN.out; have := (may_len HMM.out).2.2.1; omega
      have hst : S wd ++ ⟨#[32]⟩ ++ S a.name ++ ⟨#[32]⟩ ++ S (Lib.itoa a.fuel) = S (wd ++ [32] ++ a.name ++ [32] ++ Lib.itoa a.fuel) := by show S wd ++ S [32] ++ S a.name ++ S [32] ++ S (Lib.itoa a.fuel) = _; rw [← S_app, ← S_app, ← S_app, ← S_app]
      have HSTT := Lib.hid hst
      clear hst k0 k1 k2 k4 k5 k3 sx sy sw sn
      go_loop [3, 4] (fun sv iv => ∃ (j : Nat) (X : List UInt8), j ≤ nn ∧ iv = .int .i64 (j : Int) ∧ sv = .string (S X) ∧ Hid (X = wd ++ [32] ++ a.name ++ [32] ++ Lib.itoa a.fuel ++ bls (a.names.take j))) (fun sv iv => nn - (intOf iv).toNat)
      case atStart => exact ⟨0, _, Nat.zero_le _, rfl, by rw [HSTT.out], Lib.hid (by simp [bls])⟩
      case round =>
        obtain ⟨j, X, hj, rfl, rfl, HX⟩ := hrel
        have sX : (S X).size ≤ 1000 := by rw [S_size, HX.out]; exact HB31.out j
        by_cases hlt : j < nn
        · obtain ⟨x, l, rfl, hx, hl, hm2, hc⟩ := (HA.out.below HB3.out).hnr.at hlt
          have sl : (S l).size ≤ 31 := by rw [S_size]; exact (may_len HMM.out).2.2.2 l (List.mem_of_getElem? hl)
          have HX2 : Hid (X ++ [32] ++ l = wd ++ [32] ++ a.name ++ [32] ++ Lib.itoa a.fuel ++ bls (a.names.take (j + 1))) := Lib.hid (by rw [HX.out, List.take_add_one, hl]; simp [bls])
          have HS2 : Hid (S X ++ ⟨#[32]⟩ ++ S l = S (X ++ [32] ++ l)) := Lib.hid (by show S X ++ S [32] ++ S l = _; rw [← S_app, ← S_app])
          clear hl hm2 hx
          go_wp2_with fail
          go_round
          case rel => exact ⟨j + 1, _, by omega, by go_num, by rw [HS2.out], HX2⟩
          case measure => simp [intOf]; omega
        · have hjn : j = nn := by omega
          have HX3 : Hid (X = a.txt) := Lib.hid (by rw [HX.out, List.take_of_length_le (by rw [HLEN.out]; omega)]; unfold Ac.txt; rw [← HKD.out, HWD.out]; simp)
          go_wp2_with fail
          go_ret
          exact ⟨ret_S HX3.out, HB3.out⟩
  · obtain ⟨Post, hin, hout⟩ : ∃ Post : Act → World → Prop, Hid (∀ a' W', (∃ g, a' = { tmps := List.toArray ((.agg #[.int .i64 7, .string (S a.name), .slice bA bn bc, .slice nA nn nc, .int .i64 a.mem, .int .i64 a.fuel]) :: (.pointer (some ⟨w.heap.size, 0, none⟩)) :: (.string ⟨#[]⟩) :: (.string (S (actWs.getD 6 []))) :: undef :: (.slice (some ⟨g, 0, none⟩) 7 7) :: (.pointer (some ⟨w.heap.size, 0, none⟩)) :: (.int .i64 7) :: (.int .i64 6) :: (.pointer (some ⟨g, 6, none⟩)) :: (.string (S (actWs.getD 6 []))) :: undef :: undef :: undef :: undef :: undef :: undef :: undef :: undef :: undef :: undef :: undef :: undef :: undef :: undef :: undef :: undef :: undef :: undef :: undef :: undef :: undef :: undef :: undef :: undef :: undef :: undef :: undef :: undef :: undef :: undef :: undef :: undef :: undef :: undef :: undef :: undef :: undef :: undef :: undef :: undef :: undef :: undef :: undef :: undef :: undef :: undef :: undef :: undef :: undef :: undef :: undef :: undef :: undef :: undef :: undef :: undef :: undef :: undef :: undef :: undef :: undef :: undef :: undef :: undef :: []), defers := [] } ∧ Below W1.heap.size W1 W') → Post a' W') ∧ Hid (∀ a' W', Post a' W' → (∃ g, a' = { tmps := List.toArray ((.agg #[.int .i64 7, .string (S a.name), .slice bA bn bc, .slice nA nn nc, .int .i64 a.mem, .int .i64 a.fuel]) :: (.pointer (some ⟨w.heap.size, 0, none⟩)) :: (.string ⟨#[]⟩) :: (.string (S (actWs.getD 6 []))) :: undef :: (.slice (some ⟨g, 0, none⟩) 7 7) :: (.pointer (some ⟨w.heap.size, 0, none⟩)) :: (.int .i64 7) :: (.int .i64 6) :: (.pointer (some ⟨g, 6, none⟩)) :: (.string (S (actWs.getD 6 []))) :: undef :: undef :: undef :: undef :: undef :: undef :: undef :: undef :: undef :: undef :: undef :: undef :: undef :: undef :: undef :: undef :: undef :: undef :: undef :: undef :: undef :: undef :: undef :: undef :: undef :: undef :: undef :: undef :: undef :: undef :: undef :: undef :: undef :: undef :: undef :: undef :: undef :: undef :: undef :: undef :: undef :: undef :: undef :: undef :: undef :: undef :: undef :: undef :: undef :: undef :: undef :: undef :: undef :: undef :: undef :: undef :: undef :: undef :: undef :: undef :: undef :: undef :: undef :: undef :: []), defers := [] } ∧ Below W1.heap.size W1 W')) := ⟨_, Lib.hid fun _ _ h => h, Lib.hid fun _ _ h => h⟩
    refine Code.wp_mono (Q := Exit.then Post (fun _ _ _ => False)) ?_ ?_
    rotate_left
    · as_aux_lemma =>
        refine wp_region_inv' 7 rfl (fun L a' w' => ∃ y0 y1 y2 y3 y4 y5 y6 : Value, a' = { tmps := List.toArray ((.agg #[.int .i64 7, .string (S a.name), .slice bA bn bc, .slice nA nn nc, .int .i64 a.mem, .int .i64 a.fuel]) :: (.pointer (some ⟨w.heap.size, 0, none⟩)) :: (.string ⟨#[]⟩) :: y6 :: undef :: y0 :: y1 :: y2 :: y3 :: y4 :: y5 :: undef :: undef :: undef :: undef :: undef :: undef :: undef :: undef :: undef :: undef :: undef :: undef :: undef :: undef :: undef :: undef :: undef :: undef :: undef :: undef :: undef :: undef :: undef :: undef :: undef :: undef :: undef :: undef :: undef :: undef :: undef :: undef :: undef :: undef :: undef :: undef :: undef :: undef :: undef :: undef :: undef :: undef :: undef :: undef :: undef :: undef :: undef :: undef :: undef :: undef :: undef :: undef :: undef :: undef :: undef :: undef :: undef :: undef :: undef :: undef :: undef :: undef :: undef :: undef :: []), defers := [] } ∧ (L 0 = true → ∃ g, y0 = .slice (some ⟨g, 0, none⟩) 7 7) ∧ (L 1 = true → y1 = .pointer (some ⟨w.heap.size, 0, none⟩)) ∧ (L 2 = true → y2 = .int .i64 7) ∧ (L 3 = true → y3 = .int .i64 6) ∧ (L 4 = true → ∃ g, y0 = .slice (some ⟨g, 0, none⟩) 7 7 ∧ y4 = .pointer (some ⟨g, 6, none⟩)) ∧ (L 5 = true → y5 = .string (S (actWs.getD 6 []))) ∧ (L 6 = true → y6 = .string (S (actWs.getD 6 []))) ∧ Below W1.heap.size W1 w' ∧ w'.cell? ⟨w.heap.size, 0, none⟩ = some (.int .i64 7) ∧ (L 0 = true → ∀ g, y0 = .slice (some ⟨g, 0, none⟩) 7 7 → ∀ j, j < 7 → w'.cell? ⟨g, j, none⟩ = some (.string (S (actWs.getD j []))))) (by kernel_rfl) (by kernel_rfl) ?h0 ?step ?fin
        case h0 => exact ⟨undef, undef, undef, undef, undef, undef, undef, rfl, (fun e => by simp at e), (fun e => by simp at e), (fun e => by simp at e), (fun e => by simp at e), (fun e => by simp at e), (fun e => by simp at e), (fun e => by simp at e), hr1, c0, fun e => by simp at e⟩
        case step =>
          rintro i hi L a' w' hLi hcl hdp ⟨y0, y1, y2, y3, y4, y5, y6, rfl, e0, e1, e2, e3, e4, e5, e6, hW, hC, hJ⟩
          have hi2 : i = 0 ∨ i = 1 ∨ i = 2 ∨ i = 3 ∨ i = 4 ∨ i = 5 ∨ i = 6 := by omega
          rcases hi2 with rfl | rfl | rfl | rfl | rfl | rfl | rfl
          · have HW := Lib.hid hW; have HC := Lib.hid hC; have HJ := Lib.hid hJ
            have l4 : L 4 = false := by
              cases h : L 4
              · rfl
              · exact absurd (hcl 4 0 h (by kernel_rfl)) (by rw [hLi]; decide)
            have E1 := Lib.hid e1; have E2 := Lib.hid e2; have E3 := Lib.hid e3; have E4 := Lib.hid e4; have E5 := Lib.hid e5; have E6 := Lib.hid e6
            clear hcl hdp hW hC hJ e0 e1 e2 e3 e4 e5 e6
            refine wpOp_step rfl (fun K hK => ?_)
            go_simp
            refine (HW1.out _ HW.out).mono ?_
            rintro e v1 ⟨g, rfl, hb1, hc1, hj1⟩
            exact hK _ _ ⟨_, _, _, _, _, _, _, rfl, (fun _ => ⟨_, rfl⟩), (fun h => E1.out (by simpa [upOn] using h)), (fun h => E2.out (by simpa [upOn] using h)), (fun h => E3.out (by simpa [upOn] using h)), (fun h => by simp [upOn, l4] at h), (fun h => E5.out (by simpa [upOn] using h)), (fun h => E6.out (by simpa [upOn] using h)), hb1, hc1, (fun _ g' hg j hj => by cases hg; exact hj1 j hj)⟩
          · have HW := Lib.hid hW; have HC := Lib.hid hC; have HJ := Lib.hid hJ
            have E0 := Lib.hid e0; have E2 := Lib.hid e2; have E3 := Lib.hid e3; have E4 := Lib.hid e4; have E5 := Lib.hid e5; have E6 := Lib.hid e6
            clear hcl hdp hW hC hJ e0 e1 e2 e3 e4 e5 e6
            refine wpOp_step rfl (fun K hK => ?_)
            go_simp
            exact hK _ _ ⟨_, _, _, _, _, _, _, rfl, (fun h => E0.out (by simpa [upOn] using h)), (fun _ => rfl), (fun h => E2.out (by simpa [upOn] using h)), (fun h => E3.out (by simpa [upOn] using h)), (fun h => E4.out (by simpa [upOn] using h)), (fun h => E5.out (by simpa [upOn] using h)), (fun h => E6.out (by simpa [upOn] using h)), HW.out, HC.out, (fun h g hg j hj => HJ.out (by simpa [upOn] using h) g hg j hj)⟩
          · have HW := Lib.hid hW; have HC := Lib.hid hC; have HJ := Lib.hid hJ
            obtain rfl := e1 (hdp 1 (by kernel_rfl))
            have E0 := Lib.hid e0; have E3 := Lib.hid e3; have E4 := Lib.hid e4; have E5 := Lib.hid e5; have E6 := Lib.hid e6
            clear hcl hdp hW hC hJ e0 e1 e2 e3 e4 e5 e6
            refine wpOp_step rfl (fun K hK => ?_)
            have kc := HC.out
            go_simp
            exact hK _ _ ⟨_, _, _, _, _, _, _, rfl, (fun h => E0.out (by simpa [upOn] using h)), (fun _ => rfl), (fun _ => rfl), (fun h => E3.out (by simpa [upOn] using h)), (fun h => E4.out (by simpa [upOn] using h)), (fun h => E5.out (by simpa [upOn] using h)), (fun h => E6.out (by simpa [upOn] using h)), HW.out, HC.out, (fun h g hg j hj => HJ.out (by simpa [upOn] using h) g hg j hj)⟩
          · have HW := Lib.hid hW; have HC := Lib.hid hC; have HJ := Lib.hid hJ
            obtain rfl := e2 (hdp 2 (by kernel_rfl))
            have E0 := Lib.hid e0; have E1 := Lib.hid e1; have E4 := Lib.hid e4; have E5 := Lib.hid e5; have E6 := Lib.hid e6
            clear hcl hdp hW hC hJ e0 e1 e2 e3 e4 e5 e6
            refine wpOp_step rfl (fun K hK => ?_)
            go_simp
            exact hK _ _ ⟨_, _, _, _, _, _, _, rfl, (fun h => E0.out (by simpa [upOn] using h)), (fun h => E1.out (by simpa [upOn] using h)), (fun _ => rfl), (fun _ => rfl), (fun h => E4.out (by simpa [upOn] using h)), (fun h => E5.out (by simpa [upOn] using h)), (fun h => E6.out (by simpa [upOn] using h)), HW.out, HC.out, (fun h g hg j hj => HJ.out (by simpa [upOn] using h) g hg j hj)⟩
          · have HW := Lib.hid hW; have HC := Lib.hid hC; have HJ := Lib.hid hJ
            obtain ⟨g, rfl⟩ := e0 (hdp 0 (by kernel_rfl))
            obtain rfl := e3 (hdp 3 (by kernel_rfl))
            have E1 := Lib.hid e1; have E2 := Lib.hid e2; have E5 := Lib.hid e5; have E6 := Lib.hid e6
            clear hcl hdp hW hC hJ e0 e1 e2 e3 e4 e5 e6
            refine wpOp_step rfl (fun K hK => ?_)
            go_simp
            exact hK _ _ ⟨_, _, _, _, _, _, _, rfl, (fun _ => ⟨_, rfl⟩), (fun h => E1.out (by simpa [upOn] using h)), (fun h => E2.out (by simpa [upOn] using h)), (fun _ => rfl), (fun _ => ⟨_, rfl, rfl⟩), (fun h => E5.out (by simpa [upOn] using h)), (fun h => E6.out (by simpa [upOn] using h)), HW.out, HC.out, (fun h g hg j hj => HJ.out (by simpa [upOn] using h) g hg j hj)⟩
          · have HW := Lib.hid hW; have HC := Lib.hid hC; have HJ := Lib.hid hJ
            have l0 : L 0 = true := hcl 4 0 (hdp 4 (by kernel_rfl)) (by kernel_rfl)
            obtain ⟨g, rfl, rfl⟩ := e4 (hdp 4 (by kernel_rfl))
            have E0 := Lib.hid e0; have E1 := Lib.hid e1; have E2 := Lib.hid e2; have E3 := Lib.hid e3; have E6 := Lib.hid e6
            clear hcl hdp hW hC hJ e0 e1 e2 e3 e4 e5 e6
            refine wpOp_step rfl (fun K hK => ?_)
            have kj := HJ.out l0 g rfl 6 (by omega)
            go_simp
            exact hK _ _ ⟨_, _, _, _, _, _, _, rfl, (fun h => E0.out (by simpa [upOn] using h)), (fun h => E1.out (by simpa [upOn] using h)), (fun h => E2.out (by simpa [upOn] using h)), (fun h => E3.out (by simpa [upOn] using h)), (fun _ => ⟨_, rfl, rfl⟩), (fun _ => rfl), (fun h => E6.out (by simpa [upOn] using h)), HW.out, HC.out, (fun h g hg j hj => HJ.out (by simpa [upOn] using h) g hg j hj)⟩
          · have HW := Lib.hid hW; have HC := Lib.hid hC; have HJ := Lib.hid hJ
            obtain rfl := e5 (hdp 5 (by kernel_rfl))
            have E0 := Lib.hid e0; have E1 := Lib.hid e1; have E2 := Lib.hid e2; have E3 := Lib.hid e3; have E4 := Lib.hid e4
            clear hcl hdp hW hC hJ e0 e1 e2 e3 e4 e5 e6
            refine wpOp_step rfl (fun K hK => ?_)
            go_simp
            exact hK _ _ ⟨_, _, _, _, _, _, _, rfl, (fun h => E0.out (by simpa [upOn] using h)), (fun h => E1.out (by simpa [upOn] using h)), (fun h => E2.out (by simpa [upOn] using h)), (fun h => E3.out (by simpa [upOn] using h)), (fun h => E4.out (by simpa [upOn] using h)), (fun _ => rfl), (fun _ => rfl), HW.out, HC.out, (fun h g hg j hj => HJ.out (by simpa [upOn] using h) g hg j hj)⟩
        case fin =>
          rintro L a' w' hall ⟨y0, y1, y2, y3, y4, y5, y6, rfl, e0, e1, e2, e3, e4, e5, e6, hW, -, -⟩
          obtain ⟨g, rfl, rfl⟩ := e4 (hall 4 (by omega))
          obtain rfl := e1 (hall 1 (by omega))
          obtain rfl := e2 (hall 2 (by omega))
          obtain rfl := e3 (hall 3 (by omega))
          obtain rfl := e5 (hall 5 (by omega))
          obtain rfl := e6 (hall 6 (by omega))
          exact hin.out _ _ ⟨g, rfl, hW⟩
    · intro e a' W' hE0
      have hen : e = Exit.normal := by cases e <;> first | rfl | exact hE0.elim
      subst hen
      obtain ⟨g, rfl, hb⟩ := hout.out _ _ hE0
      have HB2 := Lib.hid (HB1.out.trans (hb.mono HB1.out.size))
      have hq2 := (hb.block _ (Array.getElem?_eq_some_iff.1 HQ.out).1).trans HQ.out
      have k0 : W'.cell? ⟨w.heap.size, 0, none⟩ = some (.int .i64 7) := by rw [World.cell?, hq2]; rfl
      have k1 : W'.cell? ⟨w.heap.size, 1, none⟩ = some (.string (S a.name)) := by rw [World.cell?, hq2]; rfl
      have k2 : W'.cell? ⟨w.heap.size, 2, none⟩ = some (.slice bA bn bc) := by rw [World.cell?, hq2]; rfl
      have k3 : W'.cell? ⟨w.heap.size, 3, none⟩ = some (.slice nA nn nc) := by rw [World.cell?, hq2]; rfl
      have k4 : W'.cell? ⟨w.heap.size, 4, none⟩ = some (.int .i64 a.mem) := by rw [World.cell?, hq2]; rfl
      have k5 : W'.cell? ⟨w.heap.size, 5, none⟩ = some (.int .i64 a.fuel) := by rw [World.cell?, hq2]; rfl
      clear hin hout hE0 hb hq2 c0 HW1 hr1 HQ
      obtain ⟨wd, hwd⟩ : ∃ wd, wd = actWs.getD 6 [] := ⟨_, rfl⟩
      have HWD : Hid (wd = wOwn) := Lib.hid hwd
      have hwl : wd.length ≤ 10 := by rw [hwd]; decide
      rw [← hwd]
      clear hwd
      obtain ⟨g1, g2, g3, g4⟩ := may_len HMM.out
      have hx1 := hxT_len a.bytes
      have hx2 : (chs a.bytes).length = a.bytes.length := by simp [chs]
      have hi1 := Lib.itoa_length_le a.mem HA.out.hm.1 HA.out.hm.2
      have hi2 := Lib.itoa_length_le a.fuel HA.out.hf.1 HA.out.hf.2
      have sw : (S wd).size ≤ 10 := by rw [S_size]; exact hwl
      have sn : (S a.name).size ≤ 31 := by rw [S_size]; exact g1
      clear hwl g1 g2 g3 g4 hx1 hx2 hi1 hi2
      go_wp2_with fail
      go_ret
      exact ⟨ret_S (by unfold Ac.txt; rw [← HKD.out, HWD.out]; simp), HB2.out⟩
end Go.Proofs.YtlodoilihminaaaGreatDoor
