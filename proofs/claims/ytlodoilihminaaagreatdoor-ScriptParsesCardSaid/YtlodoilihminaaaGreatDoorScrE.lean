/-
  script.MayAct: may an act be told?
-/
import Derived.Test.YtlodoilihminaaaGreatDoorScrD
import Derived.Test.YtlodoilihminaaaGreatDoorInv
namespace Go.Proofs.YtlodoilihminaaaGreatDoor
open Go.ChangeShapes Go.WideShapes Go.ChangeAt Go.RowKit
set_option linter.unusedVariables false
set_option linter.unusedSimpArgs false
theorem eq_empty (n : List UInt8) (W : World) : (binOp .eql 9 (.string (S n)) (.string ⟨#[]⟩)).run Tryz.prog W = .ok (.bool n.isEmpty) W := by
  have hl : (S n).toList = n := by rw [ByteArray.toList_eq]; rfl
  cases n with
  | nil => simp only [go_sem]; simp [hl]
  | cons c n => simp only [go_sem]; simp [hl]
theorem shp_size : (Tryz.prog.info? 66).map (·.size) = some 1 := by kernel_rfl
theorem csetRow_heap (w : World) (b : Nat) (cs ds : Array Value) (t : TypeId) (fr : Nat × Nat) (h : w.heap[b]? = some (.cells ds t fr)) : (w.setRow b cs).heap[b]? = some (.cells cs t fr) := by
  have hlt : b < w.heap.size := (Array.getElem?_eq_some_iff.1 h).1
  have h' : w.heap[b] = .cells ds t fr := by simpa [Array.getElem?_eq_getElem hlt] using h
  show (w.heap.modify b _)[b]? = _
  simp [Array.getElem_modify, hlt, h']
theorem cbelow_setRow {B g : Nat} {w0 w : World} (hb : Below B w0 w) (hBg : B ≤ g) (cs : Array Value) : Below B w0 (w.setRow g cs) :=
  ⟨hb.os, hb.tape, hb.output, by simpa using hb.size, fun k hk => (setRow_other w g k cs (by omega)).trans (hb.block k hk)⟩
set_option maxHeartbeats 4000000 in
set_option maxRecDepth 100000 in
theorem mayact_any (w : World) (a : Ac) (bA : Option Addr) (bn bc : Nat) (nA : Option Addr) (nn nc : Nat) (h : ActAt w a bA bn bc nA nn nc) (hk : (Lit.int .i64 a.kind).wf = true) :
    Calls Tryz.prog 36 #[.agg (actC a.kind a.name bA bn bc nA nn nc a.mem a.fuel)] w fun e w' => e = .returned (.bool a.may) ∧ Below w.heap.size w w' := by
  have HA := Lib.hid h
  have HK := Lib.hid hk
  have HMF := Lib.hid (may_fold a)
  obtain ⟨kd, hkd⟩ : ∃ kd, kd = a.kind := ⟨_, rfl⟩
  obtain ⟨ok0, hok⟩ : ∃ b, b = decide (1 ≤ kd ∧ kd ≤ 7) := ⟨_, rfl⟩
  have HSH := Lib.hid (shW_let kd)
  have HSL := Lib.hid (shW_len kd)
  rw [← hkd] at HK HMF ⊢
  rw [← hok] at HMF
  have HOK := Lib.hid hok
  clear h hk hkd hok
  unfold actC
  go_enter Tryz.func36, Tryz.ntmps36
  go_upto_region 1 with fail
  have HB0 := Lib.hid (sbelow1 w (.cells #[.int .i64 kd, .string (S a.name), .slice bA bn bc, .slice nA nn nc, .int .i64 a.mem, .int .i64 a.fuel] 27))
  have HQ := Lib.hid (heap_alloc_new w (.cells #[.int .i64 kd, .string (S a.name), .slice bA bn bc, .slice nA nn nc, .int .i64 a.mem, .int .i64 a.fuel] 27))
  have HSHP := Lib.hid fun (V : World) => shapes_any V
  have HLK := Lib.hid fun (V : World) (b n : Nat) (hm : V.ownsMap Tryz.prog 23 sheldE b n shD) => (look_sh hm kd HK.out).1
  rw [← HOK.out] at HLK
  generalize hW1 : w.alloc (.cells #[.int .i64 kd, .string (S a.name), .slice bA bn bc, .slice nA nn nc, .int .i64 a.mem, .int .i64 a.fuel] 27) = W1 at HB0 HQ ⊢
  have hsz : W1.heap.size = w.heap.size + 1 := by rw [← hW1]; simp
  have c0 : W1.cell? ⟨w.heap.size, 0, none⟩ = some (.int .i64 kd) := by rw [World.cell?, HQ.out]; rfl
  clear hW1
  have HSZ := Lib.hid hsz
  clear hsz
  have HC0 := Lib.hid c0
  clear c0
  obtain ⟨Post, hin, hout⟩ : ∃ Post : Act → World → Prop, Hid (∀ a' W', (∃ b m, a' = { tmps := List.toArray ((.agg #[.int .i64 kd, .string (S a.name), .slice bA bn bc, .slice nA nn nc, .int .i64 a.mem, .int .i64 a.fuel]) :: (.pointer (some ⟨w.heap.size, 0, none⟩)) :: (.bool false) :: (.pointer (some ⟨b, 0, none⟩)) :: (.bool ok0) :: undef :: undef :: (.tuple #[shV kd, .bool ok0]) :: (.map (some m)) :: (.pointer (some ⟨w.heap.size, 0, none⟩)) :: (.int .i64 kd) :: (.tuple #[shV kd, .bool ok0]) :: (shV kd) :: (.bool ok0) :: undef :: undef :: undef :: undef :: undef :: undef :: undef :: undef :: undef :: undef :: undef :: undef :: undef :: undef :: undef :: undef :: undef :: undef :: undef :: undef :: undef :: undef :: undef :: undef :: undef :: undef :: undef :: undef :: undef :: undef :: undef :: undef :: undef :: undef :: undef :: undef :: undef :: undef :: undef :: undef :: undef :: undef :: undef :: undef :: undef :: undef :: undef :: undef :: undef :: undef :: undef :: undef :: undef :: undef :: undef :: undef :: undef :: undef :: undef :: undef :: undef :: undef :: undef :: undef :: undef :: undef :: undef :: undef :: undef :: undef :: undef :: undef :: undef :: undef :: undef :: undef :: undef :: undef :: undef :: undef :: undef :: undef :: undef :: undef :: undef :: undef :: undef :: undef :: undef :: undef :: undef :: undef :: undef :: undef :: undef :: undef :: undef :: undef :: undef :: []), defers := [] } ∧ Below w.heap.size w W' ∧ W'.heap[w.heap.size]? = some (.cells (actC kd a.name bA bn bc nA nn nc a.mem a.fuel) 27 (0, 0)) ∧ W'.heap[b]? = some (.cells #[.string (S (shW kd))] 66 (0, 0)) ∧ w.heap.size < b) → Post a' W') ∧ Hid (∀ a' W', Post a' W' → (∃ b m, a' = { tmps := List.toArray ((.agg #[.int .i64 kd, .string (S a.name), .slice bA bn bc, .slice nA nn nc, .int .i64 a.mem, .int .i64 a.fuel]) :: (.pointer (some ⟨w.heap.size, 0, none⟩)) :: (.bool false) :: (.pointer (some ⟨b, 0, none⟩)) :: (.bool ok0) :: undef :: undef :: (.tuple #[shV kd, .bool ok0]) :: (.map (some m)) :: (.pointer (some ⟨w.heap.size, 0, none⟩)) :: (.int .i64 kd) :: (.tuple #[shV kd, .bool ok0]) :: (shV kd) :: (.bool ok0) :: undef :: undef :: undef :: undef :: undef :: undef :: undef :: undef :: undef :: undef :: undef :: undef :: undef :: undef :: undef :: undef :: undef :: undef :: undef :: undef :: undef :: undef :: undef :: undef :: undef :: undef :: undef :: undef :: undef :: undef :: undef :: undef :: undef :: undef :: undef :: undef :: undef :: undef :: undef :: undef :: undef :: undef :: undef :: undef :: undef :: undef :: undef :: undef :: undef :: undef :: undef :: undef :: undef :: undef :: undef :: undef :: undef :: undef :: undef :: undef :: undef :: undef :: undef :: undef :: undef :: undef :: undef :: undef :: undef :: undef :: undef :: undef :: undef :: undef :: undef :: undef :: undef :: undef :: undef :: undef :: undef :: undef :: undef :: undef :: undef :: undef :: undef :: undef :: undef :: undef :: undef :: undef :: undef :: undef :: undef :: undef :: undef :: undef :: undef :: []), defers := [] } ∧ Below w.heap.size w W' ∧ W'.heap[w.heap.size]? = some (.cells (actC kd a.name bA bn bc nA nn nc a.mem a.fuel) 27 (0, 0)) ∧ W'.heap[b]? = some (.cells #[.string (S (shW kd))] 66 (0, 0)) ∧ w.heap.size < b)) := ⟨_, Lib.hid fun _ _ h => h, Lib.hid fun _ _ h => h⟩
  refine Code.wp_mono (Q := Exit.then Post (fun _ _ _ => False)) ?_ ?_
  rotate_left
  · as_aux_lemma =>
    refine wp_region_inv' 10 rfl (fun L a' w' => ∃ y8 y9 y10 y11 y7 y12 y13 y3 y4 : Value, a' = { tmps := List.toArray ((.agg #[.int .i64 kd, .string (S a.name), .slice bA bn bc, .slice nA nn nc, .int .i64 a.mem, .int .i64 a.fuel]) :: (.pointer (some ⟨w.heap.size, 0, none⟩)) :: (.bool false) :: y3 :: y4 :: undef :: undef :: y7 :: y8 :: y9 :: y10 :: y11 :: y12 :: y13 :: undef :: undef :: undef :: undef :: undef :: undef :: undef :: undef :: undef :: undef :: undef :: undef :: undef :: undef :: undef :: undef :: undef :: undef :: undef :: undef :: undef :: undef :: undef :: undef :: undef :: undef :: undef :: undef :: undef :: undef :: undef :: undef :: undef :: undef :: undef :: undef :: undef :: undef :: undef :: undef :: undef :: undef :: undef :: undef :: undef :: undef :: undef :: undef :: undef :: undef :: undef :: undef :: undef :: undef :: undef :: undef :: undef :: undef :: undef :: undef :: undef :: undef :: undef :: undef :: undef :: undef :: undef :: undef :: undef :: undef :: undef :: undef :: undef :: undef :: undef :: undef :: undef :: undef :: undef :: undef :: undef :: undef :: undef :: undef :: undef :: undef :: undef :: undef :: undef :: undef :: undef :: undef :: undef :: undef :: undef :: undef :: undef :: undef :: undef :: []), defers := [] } ∧ (L 0 = true → ∃ m, y8 = .map (some m)) ∧ (L 1 = true → y9 = .pointer (some ⟨w.heap.size, 0, none⟩)) ∧ (L 2 = true → y10 = .int .i64 kd) ∧ (L 3 = true → y11 = .tuple #[shV kd, .bool ok0]) ∧ (L 4 = true → y7 = .tuple #[shV kd, .bool ok0]) ∧ (L 5 = true → y12 = shV kd) ∧ (L 6 = true → y13 = .bool ok0) ∧ (L 7 = true → ∃ b, y3 = .pointer (some ⟨b, 0, none⟩) ∧ W1.heap.size ≤ b) ∧ (L 9 = true → y4 = .bool ok0) ∧ Below W1.heap.size W1 w' ∧ (L 0 = true → L 3 = false → ∀ m, y8 = .map (some m) → ∃ n, w'.ownsMap Tryz.prog 23 sheldE m n shD) ∧ (L 7 = true → ∀ b, y3 = .pointer (some ⟨b, 0, none⟩) → w'.heap[b]? = some (.cells #[.string (if L 8 then S (shW kd) else ⟨#[]⟩)] 66 (0, 0)))) (by kernel_rfl) (by kernel_rfl) ?h0 ?step ?fin
    case h0 => exact ⟨undef, undef, undef, undef, undef, undef, undef, undef, undef, rfl, (fun e => by simp at e), (fun e => by simp at e), (fun e => by simp at e), (fun e => by simp at e), (fun e => by simp at e), (fun e => by simp at e), (fun e => by simp at e), (fun e => by simp at e), (fun e => by simp at e), (Below.refl _ _).drew, fun e => by simp at e, fun e => by simp at e⟩
    case step =>
      rintro i hi L a' w' hLi hcl hdp ⟨y8, y9, y10, y11, y7, y12, y13, y3, y4, rfl, e0, e1, e2, e3, e4, e5, e6, e7, e9, hW, hM, hB⟩
      have hi2 : i = 0 ∨ i = 1 ∨ i = 2 ∨ i = 3 ∨ i = 4 ∨ i = 5 ∨ i = 6 ∨ i = 7 ∨ i = 8 ∨ i = 9 := by omega
      rcases hi2 with rfl | rfl | rfl | rfl | rfl | rfl | rfl | rfl | rfl | rfl
      · have HW := Lib.hid hW; have HM := Lib.hid hM; have HBB := Lib.hid hB; have HCL := Lib.hid hcl
        clear hcl hW hM hB
        have E1 := Lib.hid e1; have E2 := Lib.hid e2; have E3 := Lib.hid e3; have E4 := Lib.hid e4; have E5 := Lib.hid e5; have E6 := Lib.hid e6; have E7 := Lib.hid e7; have E9 := Lib.hid e9
        clear hdp e0 e1 e2 e3 e4 e5 e6 e7 e9
        refine wpOp_step rfl (fun K hK => ?_)
        go_simp
        refine (HSHP.out _).mono ?_
        rintro e v1 ⟨rfl, hm, hb1⟩
        have HBV := Lib.hid (HW.out.trans (hb1.mono HW.out.size))
        exact hK _ _ ⟨_, _, _, _, _, _, _, _, _, rfl, (fun _ => ⟨_, rfl⟩), (fun h => E1.out (by simpa [upOn] using h)), (fun h => E2.out (by simpa [upOn] using h)), (fun h => E3.out (by simpa [upOn] using h)), (fun h => E4.out (by simpa [upOn] using h)), (fun h => E5.out (by simpa [upOn] using h)), (fun h => E6.out (by simpa [upOn] using h)), (fun h => E7.out (by simpa [upOn] using h)), (fun h => E9.out (by simpa [upOn] using h)), HBV.out, (fun _ _ m hm' => by cases hm'; exact ⟨7, hm⟩), (fun h b hb => by have h1 := HBB.out (by simpa [upOn] using h) b hb; have h2 := (hb1.block b (Array.getElem?_eq_some_iff.1 h1).1).trans h1; simpa [upOn] using h2)⟩
      · have HW := Lib.hid hW; have HM := Lib.hid hM; have HBB := Lib.hid hB; have HCL := Lib.hid hcl
        clear hcl hW hM hB
        have E0 := Lib.hid e0; have E2 := Lib.hid e2; have E3 := Lib.hid e3; have E4 := Lib.hid e4; have E5 := Lib.hid e5; have E6 := Lib.hid e6; have E7 := Lib.hid e7; have E9 := Lib.hid e9
        clear hdp e0 e1 e2 e3 e4 e5 e6 e7 e9
        refine wpOp_step rfl (fun K hK => ?_)
        go_simp
        exact hK _ _ ⟨_, _, _, _, _, _, _, _, _, rfl, (fun h => E0.out (by simpa [upOn] using h)), (fun _ => rfl), (fun h => E2.out (by simpa [upOn] using h)), (fun h => E3.out (by simpa [upOn] using h)), (fun h => E4.out (by simpa [upOn] using h)), (fun h => E5.out (by simpa [upOn] using h)), (fun h => E6.out (by simpa [upOn] using h)), (fun h => E7.out (by simpa [upOn] using h)), (fun h => E9.out (by simpa [upOn] using h)), HW.out, (fun h k => HM.out (by simpa [upOn] using h) (by simpa [upOn] using k)), (fun h b hb => by have := HBB.out (by simpa [upOn] using h) b hb; simpa [upOn] using this)⟩
      · have HW := Lib.hid hW; have HM := Lib.hid hM; have HBB := Lib.hid hB; have HCL := Lib.hid hcl
        clear hcl hW hM hB
        obtain rfl := e1 (hdp 1 (by kernel_rfl))
        have E0 := Lib.hid e0; have E3 := Lib.hid e3; have E4 := Lib.hid e4; have E5 := Lib.hid e5; have E6 := Lib.hid e6; have E7 := Lib.hid e7; have E9 := Lib.hid e9
        clear hdp e0 e1 e2 e3 e4 e5 e6 e7 e9
        refine wpOp_step rfl (fun K hK => ?_)
        have k0 : w'.cell? ⟨w.heap.size, 0, none⟩ = some (.int .i64 kd) := (HW.out.cell (show w.heap.size < W1.heap.size by have := HSZ.out; omega)).trans HC0.out
        go_simp
        exact hK _ _ ⟨_, _, _, _, _, _, _, _, _, rfl, (fun h => E0.out (by simpa [upOn] using h)), (fun _ => rfl), (fun _ => rfl), (fun h => E3.out (by simpa [upOn] using h)), (fun h => E4.out (by simpa [upOn] using h)), (fun h => E5.out (by simpa [upOn] using h)), (fun h => E6.out (by simpa [upOn] using h)), (fun h => E7.out (by simpa [upOn] using h)), (fun h => E9.out (by simpa [upOn] using h)), HW.out, (fun h k => HM.out (by simpa [upOn] using h) (by simpa [upOn] using k)), (fun h b hb => by have := HBB.out (by simpa [upOn] using h) b hb; simpa [upOn] using this)⟩
      · have HW := Lib.hid hW; have HM := Lib.hid hM; have HBB := Lib.hid hB; have HCL := Lib.hid hcl
        have l0 := hdp 0 (by kernel_rfl)
        clear hcl hW hM hB
        obtain ⟨m, rfl⟩ := e0 (hdp 0 (by kernel_rfl))
        obtain rfl := e2 (hdp 2 (by kernel_rfl))
        have E1 := Lib.hid e1; have E4 := Lib.hid e4; have E5 := Lib.hid e5; have E6 := Lib.hid e6; have E7 := Lib.hid e7; have E9 := Lib.hid e9
        clear hdp e0 e1 e2 e3 e4 e5 e6 e7 e9
        refine wpOp_step rfl (fun K hK => ?_)
        obtain ⟨n, hm⟩ := HM.out l0 hLi m rfl
        have hl := HLK.out _ _ _ hm
        go_simp
        exact hK _ _ ⟨_, _, _, _, _, _, _, _, _, rfl, (fun _ => ⟨_, rfl⟩), (fun h => E1.out (by simpa [upOn] using h)), (fun _ => rfl), (fun _ => rfl), (fun h => E4.out (by simpa [upOn] using h)), (fun h => E5.out (by simpa [upOn] using h)), (fun h => E6.out (by simpa [upOn] using h)), (fun h => E7.out (by simpa [upOn] using h)), (fun h => E9.out (by simpa [upOn] using h)), HW.out, (fun h k => by simp [upOn] at k), (fun h b hb => by have := HBB.out (by simpa [upOn] using h) b hb; simpa [upOn] using this)⟩
      · have HW := Lib.hid hW; have HM := Lib.hid hM; have HBB := Lib.hid hB; have HCL := Lib.hid hcl
        clear hcl hW hM hB
        obtain rfl := e3 (hdp 3 (by kernel_rfl))
        have E0 := Lib.hid e0; have E1 := Lib.hid e1; have E2 := Lib.hid e2; have E5 := Lib.hid e5; have E6 := Lib.hid e6; have E7 := Lib.hid e7; have E9 := Lib.hid e9
        clear hdp e0 e1 e2 e3 e4 e5 e6 e7 e9
        refine wpOp_step rfl (fun K hK => ?_)
        go_simp
        exact hK _ _ ⟨_, _, _, _, _, _, _, _, _, rfl, (fun h => E0.out (by simpa [upOn] using h)), (fun h => E1.out (by simpa [upOn] using h)), (fun h => E2.out (by simpa [upOn] using h)), (fun _ => rfl), (fun _ => rfl), (fun h => E5.out (by simpa [upOn] using h)), (fun h => E6.out (by simpa [upOn] using h)), (fun h => E7.out (by simpa [upOn] using h)), (fun h => E9.out (by simpa [upOn] using h)), HW.out, (fun h k => HM.out (by simpa [upOn] using h) (by simpa [upOn] using k)), (fun h b hb => by have := HBB.out (by simpa [upOn] using h) b hb; simpa [upOn] using this)⟩
      · have HW := Lib.hid hW; have HM := Lib.hid hM; have HBB := Lib.hid hB; have HCL := Lib.hid hcl
        clear hcl hW hM hB
        obtain rfl := e4 (hdp 4 (by kernel_rfl))
        have E0 := Lib.hid e0; have E1 := Lib.hid e1; have E2 := Lib.hid e2; have E3 := Lib.hid e3; have E6 := Lib.hid e6; have E7 := Lib.hid e7; have E9 := Lib.hid e9
        clear hdp e0 e1 e2 e3 e4 e5 e6 e7 e9
        refine wpOp_step rfl (fun K hK => ?_)
        go_simp
        exact hK _ _ ⟨_, _, _, _, _, _, _, _, _, rfl, (fun h => E0.out (by simpa [upOn] using h)), (fun h => E1.out (by simpa [upOn] using h)), (fun h => E2.out (by simpa [upOn] using h)), (fun h => E3.out (by simpa [upOn] using h)), (fun _ => rfl), (fun _ => rfl), (fun h => E6.out (by simpa [upOn] using h)), (fun h => E7.out (by simpa [upOn] using h)), (fun h => E9.out (by simpa [upOn] using h)), HW.out, (fun h k => HM.out (by simpa [upOn] using h) (by simpa [upOn] using k)), (fun h b hb => by have := HBB.out (by simpa [upOn] using h) b hb; simpa [upOn] using this)⟩
      · have HW := Lib.hid hW; have HM := Lib.hid hM; have HBB := Lib.hid hB; have HCL := Lib.hid hcl
        clear hcl hW hM hB
        obtain rfl := e4 (hdp 4 (by kernel_rfl))
        have E0 := Lib.hid e0; have E1 := Lib.hid e1; have E2 := Lib.hid e2; have E3 := Lib.hid e3; have E5 := Lib.hid e5; have E7 := Lib.hid e7; have E9 := Lib.hid e9
        clear hdp e0 e1 e2 e3 e4 e5 e6 e7 e9
        refine wpOp_step rfl (fun K hK => ?_)
        go_simp
        exact hK _ _ ⟨_, _, _, _, _, _, _, _, _, rfl, (fun h => E0.out (by simpa [upOn] using h)), (fun h => E1.out (by simpa [upOn] using h)), (fun h => E2.out (by simpa [upOn] using h)), (fun h => E3.out (by simpa [upOn] using h)), (fun _ => rfl), (fun h => E5.out (by simpa [upOn] using h)), (fun _ => rfl), (fun h => E7.out (by simpa [upOn] using h)), (fun h => E9.out (by simpa [upOn] using h)), HW.out, (fun h k => HM.out (by simpa [upOn] using h) (by simpa [upOn] using k)), (fun h b hb => by have := HBB.out (by simpa [upOn] using h) b hb; simpa [upOn] using this)⟩
      · have HW := Lib.hid hW; have HM := Lib.hid hM; have HBB := Lib.hid hB; have HCL := Lib.hid hcl
        have l8 : L 8 = false := by
          cases h : L 8
          · rfl
          · exact absurd (hcl 8 7 h (by kernel_rfl)) (by rw [hLi]; decide)
        clear hcl hW hM hB
        have E0 := Lib.hid e0; have E1 := Lib.hid e1; have E2 := Lib.hid e2; have E3 := Lib.hid e3; have E4 := Lib.hid e4; have E5 := Lib.hid e5; have E6 := Lib.hid e6; have E9 := Lib.hid e9
        clear hdp e0 e1 e2 e3 e4 e5 e6 e7 e9
        refine wpOp_step rfl (fun K hK => ?_)
        go_simp
        have HBV := Lib.hid (HW.out.alloc HW.out.size (.cells #[.string ⟨#[]⟩] 66))
        exact hK _ _ ⟨_, _, _, _, _, _, _, _, _, rfl, (fun h => E0.out (by simpa [upOn] using h)), (fun h => E1.out (by simpa [upOn] using h)), (fun h => E2.out (by simpa [upOn] using h)), (fun h => E3.out (by simpa [upOn] using h)), (fun h => E4.out (by simpa [upOn] using h)), (fun h => E5.out (by simpa [upOn] using h)), (fun h => E6.out (by simpa [upOn] using h)), (fun _ => ⟨_, rfl, HW.out.size⟩), (fun h => E9.out (by simpa [upOn] using h)), HBV.out, (fun h k m hm => by obtain ⟨n, hx⟩ := HM.out (by simpa [upOn] using h) (by simpa [upOn] using k) m hm; exact ⟨n, hx.alloc _⟩), (fun h b hb => by cases hb; have h2 := heap_alloc_new w' (.cells #[.string ⟨#[]⟩] 66); simpa [upOn, l8] using h2)⟩
      · have HW := Lib.hid hW; have HM := Lib.hid hM; have HBB := Lib.hid hB; have HCL := Lib.hid hcl
        have l7 := hdp 7 (by kernel_rfl)
        have l3 : L 3 = true := hdp 3 (by kernel_rfl)
        clear hcl hW hM hB
        obtain ⟨b, rfl, hb1⟩ := e7 (hdp 7 (by kernel_rfl))
        obtain rfl := e5 (hdp 5 (by kernel_rfl))
        have E0 := Lib.hid e0; have E1 := Lib.hid e1; have E2 := Lib.hid e2; have E3 := Lib.hid e3; have E4 := Lib.hid e4; have E6 := Lib.hid e6; have E9 := Lib.hid e9
        clear hdp e0 e1 e2 e3 e4 e5 e6 e7 e9
        refine wpOp_step rfl (fun K hK => ?_)
        rw [if_pos (by rfl)]
        have hblk := HBB.out l7 b rfl
        rw [hLi] at hblk
        have HBK := Lib.hid hblk
        refine wp_store_row 66 _ _ rfl b #[.string (S (shW kd))] rfl rfl 66 #[.string ⟨#[]⟩] hblk shp_size rfl (by simp [Value.oneCell']) ?_
        have HBV := Lib.hid (cbelow_setRow HW.out hb1 #[.string (S (shW kd))])
        exact hK _ _ ⟨_, _, _, _, _, _, _, _, _, rfl, (fun h => E0.out (by simpa [upOn] using h)), (fun h => E1.out (by simpa [upOn] using h)), (fun h => E2.out (by simpa [upOn] using h)), (fun h => E3.out (by simpa [upOn] using h)), (fun h => E4.out (by simpa [upOn] using h)), (fun _ => rfl), (fun h => E6.out (by simpa [upOn] using h)), (fun _ => ⟨_, rfl, hb1⟩), (fun h => E9.out (by simpa [upOn] using h)), HBV.out, (fun h k => by simp [upOn, l3] at k), (fun h b' hb => by cases hb; have h2 := csetRow_heap w' b #[.string (S (shW kd))] _ _ _ HBK.out; simpa [upOn] using h2)⟩
      · have HW := Lib.hid hW; have HM := Lib.hid hM; have HBB := Lib.hid hB; have HCL := Lib.hid hcl
        clear hcl hW hM hB
        obtain rfl := e6 (hdp 6 (by kernel_rfl))
        have E0 := Lib.hid e0; have E1 := Lib.hid e1; have E2 := Lib.hid e2; have E3 := Lib.hid e3; have E4 := Lib.hid e4; have E5 := Lib.hid e5; have E7 := Lib.hid e7
        clear hdp e0 e1 e2 e3 e4 e5 e6 e7 e9
        refine wpOp_step rfl (fun K hK => ?_)
        go_simp
        exact hK _ _ ⟨_, _, _, _, _, _, _, _, _, rfl, (fun h => E0.out (by simpa [upOn] using h)), (fun h => E1.out (by simpa [upOn] using h)), (fun h => E2.out (by simpa [upOn] using h)), (fun h => E3.out (by simpa [upOn] using h)), (fun h => E4.out (by simpa [upOn] using h)), (fun h => E5.out (by simpa [upOn] using h)), (fun _ => rfl), (fun h => E7.out (by simpa [upOn] using h)), (fun _ => rfl), HW.out, (fun h k => HM.out (by simpa [upOn] using h) (by simpa [upOn] using k)), (fun h b hb => by have := HBB.out (by simpa [upOn] using h) b hb; simpa [upOn] using this)⟩
    case fin =>
      rintro L a' w' hall ⟨y8, y9, y10, y11, y7, y12, y13, y3, y4, rfl, e0, e1, e2, e3, e4, e5, e6, e7, e9, hW, -, hB⟩
      obtain ⟨m, rfl⟩ := e0 (hall 0 (by omega))
      obtain rfl := e1 (hall 1 (by omega))
      obtain rfl := e2 (hall 2 (by omega))
      obtain rfl := e3 (hall 3 (by omega))
      obtain rfl := e4 (hall 4 (by omega))
      obtain rfl := e5 (hall 5 (by omega))
      obtain rfl := e6 (hall 6 (by omega))
      obtain ⟨b, rfl, hb1⟩ := e7 (hall 7 (by omega))
      obtain rfl := e9 (hall 9 (by omega))
      have h1 := hB (hall 7 (by omega)) b rfl
      rw [hall 8 (by omega)] at h1
      exact hin.out _ _ ⟨b, m, rfl, HB0.out.trans (hW.mono HB0.out.size), (hW.block _ (by have := HSZ.out; omega)).trans HQ.out, h1, by have := HSZ.out; omega⟩
  · intro e a' W' hE0
    have hen : e = Exit.normal := by cases e <;> first | rfl | exact hE0.elim
    subst hen
    obtain ⟨b, m, rfl, hb, hq, hs, hlt⟩ := hout.out _ _ hE0
    clear hin hout hE0 HLK HSHP HC0 HB0 HQ
    have hqb : W'.heap[w.heap.size]? = some (.cells (actC kd a.name bA bn bc nA nn nc a.mem a.fuel) 27 (0, 0)) := hq
    have cs : W'.cell? ⟨b, 0, none⟩ = some (.string (S (shW kd))) := by rw [World.cell?, hs]; rfl
    have hit := heap_alloc_new W' (.stringIter (S (shW kd)) 0)
    have hw1 : w.heap.size < W'.heap.size := (Array.getElem?_eq_some_iff.1 hq).1
    have HMB : Hid (MB w (W'.alloc (.stringIter (S (shW kd)) 0)) w.heap.size W'.heap.size (S (shW kd)) 0 kd a bA bn bc nA nn nc) := Lib.hid ⟨hb.alloc hb.size _, Nat.le_refl _, Nat.le_of_lt hw1, by omega, (Below.heap_alloc W' _ _ hw1).trans hqb, hit, HA.out⟩
    obtain ⟨ps, hps⟩ : ∃ ps, ps = S (shW kd) := ⟨_, rfl⟩
    obtain ⟨ls, hls⟩ : ∃ ls, ls = shW kd := ⟨_, rfl⟩
    rw [← hps] at cs HMB
    have HPS : Hid (ps = S ls) := Lib.hid (by rw [hps, hls])
    rw [← hls] at HMF HSH HSL
    clear hps hls hqb hit hq hs hb hlt
    go_wp2_with fail
    go_loopw [4] (fun okv wr => ∃ (pos : Nat) (ok : Bool) (cur : Ac) (bA' : Option Addr) (bn' bc' : Nat) (nA' : Option Addr) (nn' nc' : Nat), pos ≤ ls.length ∧ okv = .bool ok ∧ Hid ((ls.take pos).foldl stM (ok0, a) = (ok, cur)) ∧ Hid (MB w wr w.heap.size W'.heap.size ps pos kd cur bA' bn' bc' nA' nn' nc')) (fun _ wr => ls.length - wr.iterPos W'.heap.size)
    case atStart => exact ⟨0, ok0, a, bA, bn, bc, nA, nn, nc, Nat.zero_le _, rfl, Lib.hid rfl, HMB⟩
    case round =>
      clear HMB HSL
      obtain ⟨pos, ok, cur, bA', bn', bc', nA', nn', nc', hpos, rfl, HF, HM⟩ := hrel
      have hpsz : ps.size = ls.length := by rw [HPS.out, S_size]
      by_cases hp : pos < ls.length
      · have hp' : pos < ps.size := by rw [hpsz]; exact hp
        have hg : ps[pos] = ls[pos] := by
          have h := HPS.out
          subst h
          rfl
        have hlet := HSH.out _ (List.getElem_mem hp)
        have hstep : (ls.take (pos + 1)).foldl stM (ok0, a) = stM (ok, cur) ls[pos] := by
          rw [List.take_succ_eq_append_getElem hp, List.foldl_append, HF.out]; rfl
        have hlt128 : (ps[pos]'hp').toNat < 128 := by
          rw [hg]
          unfold okLet at hlet
          rcases hlet with h | h | h | h | h | h | h <;> rw [h] <;> decide
        obtain ⟨w1, hnx, hm1⟩ := HM.out.next hp' hlt128
        rw [hg] at hnx
        have HM1 := Lib.hid hm1
        have hpm := HM.out.ipos
        have HPM := Lib.hid hpm
        clear hm1 hpm hlt128 hg hp' hpsz HM
        obtain ⟨c, hc⟩ : ∃ c, c = ls[pos] := ⟨_, rfl⟩
        rw [← hc] at hlet hstep hnx
        clear hc
        have k1 : w1.cell? ⟨w.heap.size, 1, none⟩ = some (.string (S cur.name)) := HM1.out.cell rfl
        have k2 : w1.cell? ⟨w.heap.size, 2, none⟩ = some (.slice bA' bn' bc') := HM1.out.cell rfl
        have k3 : w1.cell? ⟨w.heap.size, 3, none⟩ = some (.slice nA' nn' nc') := HM1.out.cell rfl
        have k4 : w1.cell? ⟨w.heap.size, 4, none⟩ = some (.int .i64 cur.mem) := HM1.out.cell rfl
        have k5 : w1.cell? ⟨w.heap.size, 5, none⟩ = some (.int .i64 cur.fuel) := HM1.out.cell rfl
        have f1 := HM1.out.frz 1
        have f2 := HM1.out.frz 2
        have f3 := HM1.out.frz 3
        have f4 := HM1.out.frz 4
        have f5 := HM1.out.frz 5
        unfold okLet at hlet
        rcases hlet with rfl | rfl | rfl | rfl | rfl | rfl | rfl
        · have HST : Hid ((ls.take (pos + 1)).foldl stM (ok0, a) = (ok && fnB cur.name, { cur with name := [] })) := Lib.hid hstep
          clear hstep
          replace hnx : ∀ ty, (Instr.next (.pointer (some ⟨W'.heap.size, 0, none⟩)) true ty).run Tryz.prog wr = .ok (.tuple #[.bool true, .int .i64 pos, .int .i32 110]) w1 := hnx
          have hN := sname_any (S cur.name) (by rw [S_size]; exact HM1.out.act.hnm)
          rw [Sd] at hN
          have HN := Lib.hid hN
          clear hN
          cases ok with
          | true =>
            go_wp2_with (go_at_call 63; (with_reducible refine (HN.out _).mono ?_); rintro e w' ⟨rfl, hw⟩; subst hw)
            exact ⟨⟨pos + 1, _, _, bA', bn', bc', nA', nn', nc', by omega, rfl, HST, Lib.hid HM1.out.set1⟩, by rw [HPM.out, HM1.out.set1.ipos]; omega⟩
          | false =>
            go_wp2_with fail
            exact ⟨⟨pos + 1, _, _, bA', bn', bc', nA', nn', nc', by omega, rfl, HST, Lib.hid HM1.out.set1⟩, by rw [HPM.out, HM1.out.set1.ipos]; omega⟩
        · have HST : Hid ((ls.take (pos + 1)).foldl stM (ok0, a) = (ok && modB cur.name, { cur with name := [] })) := Lib.hid hstep
          clear hstep
          replace hnx : ∀ ty, (Instr.next (.pointer (some ⟨W'.heap.size, 0, none⟩)) true ty).run Tryz.prog wr = .ok (.tuple #[.bool true, .int .i64 pos, .int .i32 109]) w1 := hnx
          have hN := smod_any (S cur.name) (by rw [S_size]; exact HM1.out.act.hnm)
          rw [Sd] at hN
          have HN := Lib.hid hN
          clear hN
          cases ok with
          | true =>
            go_wp2_with (go_at_call 64; (with_reducible refine (HN.out _).mono ?_); rintro e w' ⟨rfl, hw⟩; subst hw)
            exact ⟨⟨pos + 1, _, _, bA', bn', bc', nA', nn', nc', by omega, rfl, HST, Lib.hid HM1.out.set1⟩, by rw [HPM.out, HM1.out.set1.ipos]; omega⟩
          | false =>
            go_wp2_with fail
            exact ⟨⟨pos + 1, _, _, bA', bn', bc', nA', nn', nc', by omega, rfl, HST, Lib.hid HM1.out.set1⟩, by rw [HPM.out, HM1.out.set1.ipos]; omega⟩
        · have HST : Hid ((ls.take (pos + 1)).foldl stM (ok0, a) = (ok && decide (cur.bytes.length ≤ 65536), { cur with bytes := [] })) := Lib.hid hstep
          clear hstep
          replace hnx : ∀ ty, (Instr.next (.pointer (some ⟨W'.heap.size, 0, none⟩)) true ty).run Tryz.prog wr = .ok (.tuple #[.bool true, .int .i64 pos, .int .i32 98]) w1 := hnx
          have hbl := HM1.out.act.hbr.1
          cases ok with
          | true =>
            go_wp2_with fail
            exact ⟨⟨pos + 1, _, _, none, 0, 0, nA', nn', nc', by omega, by rw [hbl]; simp; omega, HST, Lib.hid HM1.out.set2⟩, by rw [HPM.out, HM1.out.set2.ipos]; omega⟩
          | false =>
            go_wp2_with fail
            exact ⟨⟨pos + 1, _, _, none, 0, 0, nA', nn', nc', by omega, rfl, HST, Lib.hid HM1.out.set2⟩, by rw [HPM.out, HM1.out.set2.ipos]; omega⟩
        · have HST : Hid ((ls.take (pos + 1)).foldl stM (ok0, a) = (ok && plnB cur.bytes, { cur with bytes := [] })) := Lib.hid hstep
          clear hstep
          replace hnx : ∀ ty, (Instr.next (.pointer (some ⟨W'.heap.size, 0, none⟩)) true ty).run Tryz.prog wr = .ok (.tuple #[.bool true, .int .i64 pos, .int .i32 116]) w1 := hnx
          have HN := Lib.hid (added_any bA' bn' bc' cur.bytes w1 (HM1.out.act.below HM1.out.hb).hbr HM1.out.act.hbn)
          cases ok with
          | true =>
            go_wp2_with (go_at_call 65; (with_reducible refine HN.out.mono ?_); rintro e w' ⟨rfl, hw⟩; subst hw)
            exact ⟨⟨pos + 1, _, _, none, 0, 0, nA', nn', nc', by omega, rfl, HST, Lib.hid HM1.out.set2⟩, by rw [HPM.out, HM1.out.set2.ipos]; omega⟩
          | false =>
            go_wp2_with fail
            exact ⟨⟨pos + 1, _, _, none, 0, 0, nA', nn', nc', by omega, rfl, HST, Lib.hid HM1.out.set2⟩, by rw [HPM.out, HM1.out.set2.ipos]; omega⟩
        · have HST : Hid ((ls.take (pos + 1)).foldl stM (ok0, a) = (ok && numB cur.mem, { cur with mem := 0 })) := Lib.hid hstep
          clear hstep
          replace hnx : ∀ ty, (Instr.next (.pointer (some ⟨W'.heap.size, 0, none⟩)) true ty).run Tryz.prog wr = .ok (.tuple #[.bool true, .int .i64 pos, .int .i32 105]) w1 := hnx
          have HN := Lib.hid (snum_any cur.mem)
          cases ok with
          | true =>
            go_wp2_with (go_at_call 66; (with_reducible refine (HN.out _).mono ?_); rintro e w' ⟨rfl, hw⟩; subst hw)
            exact ⟨⟨pos + 1, _, _, bA', bn', bc', nA', nn', nc', by omega, rfl, HST, Lib.hid HM1.out.set4⟩, by rw [HPM.out, HM1.out.set4.ipos]; omega⟩
          | false =>
            go_wp2_with fail
            exact ⟨⟨pos + 1, _, _, bA', bn', bc', nA', nn', nc', by omega, rfl, HST, Lib.hid HM1.out.set4⟩, by rw [HPM.out, HM1.out.set4.ipos]; omega⟩
        · have HST : Hid ((ls.take (pos + 1)).foldl stM (ok0, a) = (ok && numB cur.fuel, { cur with fuel := 0 })) := Lib.hid hstep
          clear hstep
          replace hnx : ∀ ty, (Instr.next (.pointer (some ⟨W'.heap.size, 0, none⟩)) true ty).run Tryz.prog wr = .ok (.tuple #[.bool true, .int .i64 pos, .int .i32 102]) w1 := hnx
          have HN := Lib.hid (snum_any cur.fuel)
          cases ok with
          | true =>
            go_wp2_with (go_at_call 66; (with_reducible refine (HN.out _).mono ?_); rintro e w' ⟨rfl, hw⟩; subst hw)
            exact ⟨⟨pos + 1, _, _, bA', bn', bc', nA', nn', nc', by omega, rfl, HST, Lib.hid HM1.out.set5⟩, by rw [HPM.out, HM1.out.set5.ipos]; omega⟩
          | false =>
            go_wp2_with fail
            exact ⟨⟨pos + 1, _, _, bA', bn', bc', nA', nn', nc', by omega, rfl, HST, Lib.hid HM1.out.set5⟩, by rw [HPM.out, HM1.out.set5.ipos]; omega⟩
        · have HST : Hid ((ls.take (pos + 1)).foldl stM (ok0, a) = (ok && nmsB cur.names, { cur with names := [] })) := Lib.hid hstep
          clear hstep
          replace hnx : ∀ ty, (Instr.next (.pointer (some ⟨W'.heap.size, 0, none⟩)) true ty).run Tryz.prog wr = .ok (.tuple #[.bool true, .int .i64 pos, .int .i32 108]) w1 := hnx
          have HN := Lib.hid (names_any nA' nn' nc' cur.names w1 (HM1.out.act.below HM1.out.hb).hnr HM1.out.act.hnn)
          cases ok with
          | true =>
            go_wp2_with (go_at_call 67; (with_reducible refine HN.out.mono ?_); rintro e w' ⟨rfl, hw⟩; subst hw)
            exact ⟨⟨pos + 1, _, _, bA', bn', bc', none, 0, 0, by omega, rfl, HST, Lib.hid HM1.out.set3⟩, by rw [HPM.out, HM1.out.set3.ipos]; omega⟩
          | false =>
            go_wp2_with fail
            exact ⟨⟨pos + 1, _, _, bA', bn', bc', none, 0, 0, by omega, rfl, HST, Lib.hid HM1.out.set3⟩, by rw [HPM.out, HM1.out.set3.ipos]; omega⟩
      · have hnx := HM.out.stop (by rw [hpsz]; exact hp)
        have hfin : finM (ok, cur) = a.may := by
          rw [← HMF.out, ← HF.out, List.take_of_length_le (by omega)]
        have k1 : wr.cell? ⟨w.heap.size, 1, none⟩ = some (.string (S cur.name)) := HM.out.cell rfl
        have k2 : wr.cell? ⟨w.heap.size, 2, none⟩ = some (.slice bA' bn' bc') := HM.out.cell rfl
        have k3 : wr.cell? ⟨w.heap.size, 3, none⟩ = some (.slice nA' nn' nc') := HM.out.cell rfl
        have k4 : wr.cell? ⟨w.heap.size, 4, none⟩ = some (.int .i64 cur.mem) := HM.out.cell rfl
        have k5 : wr.cell? ⟨w.heap.size, 5, none⟩ = some (.int .i64 cur.fuel) := HM.out.cell rfl
        have hfin2 : (ok && (cur.name.isEmpty && (decide (bn' = 0) && (decide (nn' = 0) && (decide (cur.mem = 0) && decide (cur.fuel = 0)))))) = a.may := by
          rw [← hfin]
          have e1 : cur.bytes.isEmpty = decide (bn' = 0) := by rw [← HM.out.act.hbr.1, Bool.eq_iff_iff]; simp
          have e2 : cur.names.isEmpty = decide (nn' = 0) := by rw [← HM.out.act.hnr.1, Bool.eq_iff_iff]; simp
          unfold finM
          simp only [e1, e2]
        have hsl : (S cur.name).toList = cur.name := by rw [ByteArray.toList_eq]; rfl
        have HBL := Lib.hid HM.out.hb
        have HFI := Lib.hid hfin2
        clear hfin hfin2 HM HF HMF HSH hpsz
        generalize cur.mem = mm at k4 HFI
        generalize cur.fuel = ff at k5 HFI
        have hne : (cur.name.isEmpty = true ∧ (S cur.name).toList = []) ∨ (cur.name.isEmpty = false ∧ ((S cur.name).toList == []) = false) := by
          rw [hsl]
          cases cur.name <;> simp
        clear hsl
        generalize cur.name.isEmpty = e1 at hne HFI
        generalize S cur.name = nm at k1 hne
        cases ok with
        | false =>
          go_wp2_with fail
          go_ret
          exact ⟨ret_bool (by rw [← HFI.out]; rfl), HBL.out⟩
        | true =>
          rcases hne with ⟨rfl, hnl⟩ | ⟨rfl, hnl⟩
          rotate_left
          · go_wp2_with fail
            go_ret
            exact ⟨ret_bool (by rw [← HFI.out]; rfl), HBL.out⟩
          · by_cases hb0 : bn' = 0
            rotate_left
            · have hb1 : ((bn' : Int) == 0) = false := by simp; omega
              have HFJ := Lib.hid (show false = a.may by rw [← HFI.out, decide_eq_false hb0]; rfl)
              clear hb0
              go_wp2_with fail
              go_ret
              exact ⟨ret_bool HFJ.out, HBL.out⟩
            subst hb0
            by_cases hn0 : nn' = 0
            rotate_left
            · have hb1 : ((nn' : Int) == 0) = false := by simp; omega
              have HFJ := Lib.hid (show false = a.may by rw [← HFI.out, decide_eq_false hn0]; rfl)
              clear hn0
              go_wp2_with fail
              go_ret
              exact ⟨ret_bool HFJ.out, HBL.out⟩
            subst hn0
            by_cases hm0 : mm = 0
            rotate_left
            · have hb1 : (mm == 0) = false := by simp; omega
              have HFJ := Lib.hid (show false = a.may by rw [← HFI.out, decide_eq_false hm0]; rfl)
              clear hm0
              go_wp2_with fail
              go_ret
              exact ⟨ret_bool HFJ.out, HBL.out⟩
            subst hm0
            by_cases hf0 : ff = 0
            rotate_left
            · have hb1 : (ff == 0) = false := by simp; omega
              have HFJ := Lib.hid (show false = a.may by rw [← HFI.out, decide_eq_false hf0]; rfl)
              clear hf0
              go_wp2_with fail
              go_ret
              exact ⟨ret_bool HFJ.out, HBL.out⟩
            subst hf0
            go_wp2_with fail
            go_ret
            exact ⟨ret_bool (by rw [← HFI.out]; rfl), HBL.out⟩
end Go.Proofs.YtlodoilihminaaaGreatDoor
