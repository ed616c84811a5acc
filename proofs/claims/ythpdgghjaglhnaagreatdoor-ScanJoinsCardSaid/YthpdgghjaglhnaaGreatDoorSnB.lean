/-
  A scanner in memory: marks, looks, names.
-/
import Derived.Test.YthpdgghjaglhnaaGreatDoorSnA
namespace Go.Proofs.YthpdgghjaglhnaaGreatDoor
open Go.ChangeShapes Go.WideShapes Go.ChangeAt Go.RowKit
open Go.ChangeMaps (setBlock)
open Ev (WRow)
set_option linter.unusedVariables false
set_option linter.unusedSimpArgs false
theorem map_neq_nil (b : Nat) (W : World) : (binOp .neq 41 (.map (some b)) (.map none)).run Tryz.prog W = .ok (.bool true) W := by
  obtain ⟨d, hd⟩ : ∃ d, Op.maxDepth = d + 1 := ⟨9999, rfl⟩
  rw [show binOp .neq 41 (.map (some b)) (.map none) = (do pure (.bool (!(← Op.equal 41 (.map (some b)) (.map none)))) : Sem Value) from rfl, Op.equal, hd]
  simp [Op.equalIn, run_underlying Tryz.underlying41]
def markF (s : Sn) (code pos : Int) : Sn := if s.code = 0 ∧ code ≠ 0 then { s with code := code, epos := pos, sym := 0, pos := pos, val := 0, id := 0, txt := bs [] } else s
theorem markF_nms (s : Sn) (c p : Int) : (markF s c p).nms = s.nms := by unfold markF; split <;> rfl
theorem markF_src (s : Sn) (c p : Int) : (markF s c p).src = s.src := by unfold markF; split <;> rfl
theorem markF_at (s : Sn) (c p : Int) : (markF s c p).at_ = s.at_ := by unfold markF; split <;> rfl
section
variable {w : World} {B : Nat} {q : Sp} {s : Sn}
theorem SnAt.c0 (h : SnAt w B q s) : w.cell? ⟨q.p, 0, none⟩ = some q.sv := h.c 0 _ rfl
theorem SnAt.c1 (h : SnAt w B q s) : w.cell? ⟨q.p, 1, none⟩ = some (.int .i64 (s.at_ : Int)) := h.c 1 _ rfl
theorem SnAt.c2 (h : SnAt w B q s) : w.cell? ⟨q.p, 2, none⟩ = some (.int .i64 s.sym) := h.c 2 _ rfl
theorem SnAt.c3 (h : SnAt w B q s) : w.cell? ⟨q.p, 3, none⟩ = some (.int .i64 s.pos) := h.c 3 _ rfl
theorem SnAt.c4 (h : SnAt w B q s) : w.cell? ⟨q.p, 4, none⟩ = some (.int .i32 s.val) := h.c 4 _ rfl
theorem SnAt.c5 (h : SnAt w B q s) : w.cell? ⟨q.p, 5, none⟩ = some (.int .i64 s.id) := h.c 5 _ rfl
theorem SnAt.c6 (h : SnAt w B q s) : w.cell? ⟨q.p, 6, none⟩ = some (.string s.txt) := h.c 6 _ rfl
theorem SnAt.c7 (h : SnAt w B q s) : w.cell? ⟨q.p, 7, none⟩ = some (.int .i64 s.code) := h.c 7 _ rfl
theorem SnAt.c8 (h : SnAt w B q s) : w.cell? ⟨q.p, 8, none⟩ = some (.int .i64 s.epos) := h.c 8 _ rfl
theorem SnAt.c9 (h : SnAt w B q s) : w.cell? ⟨q.p, 9, none⟩ = some q.nv := h.c 9 _ rfl
theorem SnAt.c10 (h : SnAt w B q s) : w.cell? ⟨q.p, 10, none⟩ = some (.map (some q.ib)) := h.c 10 _ rfl
theorem SnAt.c11 (h : SnAt w B q s) : w.cell? ⟨q.p, 11, none⟩ = some (.int .i64 s.kw) := h.c 11 _ rfl
theorem SnAt.c12 (h : SnAt w B q s) : w.cell? ⟨q.p, 12, none⟩ = some (.map (some q.gb)) := h.c 12 _ rfl
theorem snis_any (h : SnAt w B q s) : Calls Tryz.prog 25 #[.pointer (some ⟨q.p, 0, none⟩)] w fun e w' => e = .returned (.bool true) ∧ w = w' := by
  have c10 := h.c10
  have hn := map_neq_nil q.ib w
  go_enter Tryz.func25, Tryz.ntmps25
  go_wp2
  go_ret
  exact ⟨rfl, rfl⟩
theorem snletter_any (c : Int) (w : World) : Calls Tryz.prog 29 #[.int .u8 c] w fun e w' => e = .returned (.bool (decide (65 ≤ c ∧ c ≤ 90 ∨ 97 ≤ c ∧ c ≤ 122))) ∧ w = w' := by
  by_cases h1 : 65 ≤ c <;> by_cases h2 : c ≤ 90 <;> by_cases h3 : 97 ≤ c <;> by_cases h4 : c ≤ 122
  all_goals
    go_enter Tryz.func29, Tryz.ntmps29
    go_wp2
    go_ret
    refine ⟨?_, rfl⟩
    first | rfl | (simp [h1, h2, h3, h4]; done) | (simp [h1, h2, h3, h4]; omega) | (exfalso; omega)
theorem sndigit_any (c : Int) (w : World) : Calls Tryz.prog 31 #[.int .u8 c] w fun e w' => e = .returned (.bool (decide (48 ≤ c ∧ c ≤ 57))) ∧ w = w' := by
  by_cases h1 : 48 ≤ c <;> by_cases h2 : c ≤ 57
  all_goals
    go_enter Tryz.func31, Tryz.ntmps31
    go_wp2
    go_ret
    refine ⟨?_, rfl⟩
    first | rfl | (simp [h1, h2]; done) | (simp [h1, h2]; omega) | (exfalso; omega)
set_option maxHeartbeats 1000000 in
theorem markat_any (h : SnAt w B q s) (code pos : Int) : Calls Tryz.prog 16 #[.pointer (some ⟨q.p, 0, none⟩), .int .i64 code, .int .i64 pos] w fun e w' => e = .returned (.tuple #[]) ∧ SnAt w' B q (markF s code pos) ∧ Sf q q w w' := by
  have HI := Lib.hid (snis_any h)
  have c2 := h.c2
  have c3 := h.c3
  have c4 := h.c4
  have c5 := h.c5
  have c6 := h.c6
  have c8 := h.c8
  have c7 := h.c7
  have z2 := h.z 2 (by omega)
  have z3 := h.z 3 (by omega)
  have z4 := h.z 4 (by omega)
  have z5 := h.z 5 (by omega)
  have z6 := h.z 6 (by omega)
  have z7 := h.z 7 (by omega)
  have z8 := h.z 8 (by omega)
  by_cases hc : s.code = 0 ∧ code ≠ 0
  · obtain ⟨hc0, hc1⟩ := hc
    have e1 : markF s code pos = { s with code := code, epos := pos, sym := 0, pos := pos, val := 0, id := 0, txt := bs [] } := by unfold markF; rw [if_pos ⟨hc0, hc1⟩]
    have h1 := h.put 7 [.int .i64 code, .int .i64 pos] { s with code := code, epos := pos } (by simp) rfl rfl h.at1 rfl
    have h2 := h1.put 2 [.int .i64 0, .int .i64 pos, .int .i32 0, .int .i64 0, .string (bs [])] { s with code := code, epos := pos, sym := 0, pos := pos, val := 0, id := 0, txt := bs [] } (by simp) rfl rfl h.at1 rfl
    rw [← e1] at h2
    have H2 := Lib.hid h2
    have F2 := Lib.hid (Sf.setCells [.int .i64 0, .int .i64 pos, .int .i32 0, .int .i64 0, .string (bs [])] 2 _ (Sf.setCells [.int .i64 code, .int .i64 pos] 7 _ (Sf.refl q w)))
    rw [hc0] at c7
    have hc2 : (code != 0) = true := by simpa using hc1
    clear e1 h1 h2 h hc0 hc1
    generalize markF s code pos = s2 at *
    go_enter Tryz.func16, Tryz.ntmps16
    go_wp2_with (go_at_call 25; (with_reducible refine HI.out.mono ?_); rintro e w' ⟨rfl, rfl⟩)
    go_end0
    exact ⟨rfl, H2.out, F2.out⟩
  · have e1 : markF s code pos = s := by unfold markF; rw [if_neg hc]
    rw [e1]
    have H := Lib.hid h
    clear h e1
    by_cases hc0 : s.code = 0
    · have hc1 : code = 0 := by
        by_cases h1 : code = 0
        · exact h1
        · exact absurd ⟨hc0, h1⟩ hc
      rw [hc0] at c7
      subst hc1
      clear hc hc0
      go_enter Tryz.func16, Tryz.ntmps16
      go_wp2_with (go_at_call 25; (with_reducible refine HI.out.mono ?_); rintro e w' ⟨rfl, rfl⟩)
      go_end0
      exact ⟨rfl, H.out, Sf.refl _ _⟩
    · have hc1 : (s.code == 0) = false := by simpa using hc0
      clear hc hc0
      go_enter Tryz.func16, Tryz.ntmps16
      go_wp2_with (go_at_call 25; (with_reducible refine HI.out.mono ?_); rintro e w' ⟨rfl, rfl⟩)
      go_end0
      exact ⟨rfl, H.out, Sf.refl _ _⟩
theorem mark_any (h : SnAt w B q s) (code : Int) : Calls Tryz.prog 38 #[.pointer (some ⟨q.p, 0, none⟩), .int .i64 code] w fun e w' => e = .returned (.tuple #[]) ∧ SnAt w' B q (markF s code s.pos) ∧ Sf q q w w' := by
  have HI := Lib.hid (snis_any h)
  have HM := Lib.hid (markat_any h code s.pos)
  have c3 := h.c3
  clear h
  go_enter Tryz.func38, Tryz.ntmps38
  go_wp2_with (first | (go_at_call 25; (with_reducible refine HI.out.mono ?_); rintro e w' ⟨rfl, rfl⟩) | (go_at_call 16; (with_reducible refine HM.out.mono ?_); rintro e w2 ⟨rfl, ha, hb⟩; have HA := Lib.hid ha; have HB := Lib.hid hb; clear ha hb))
  go_end0
  exact ⟨rfl, HA.out, HB.out⟩
theorem snerr_any (h : SnAt w B q s) : Calls Tryz.prog 9 #[.pointer (some ⟨q.p, 0, none⟩)] w fun e w' => e = .returned (.tuple #[.int .i64 s.code, .int .i64 s.epos]) ∧ Below w.heap.size w w' := by
  have HI := Lib.hid (snis_any h)
  have c7 := h.c7
  have c8 := h.c8
  clear h
  go_enter Tryz.func9, Tryz.ntmps9
  go_wp2_with (go_at_call 25; (with_reducible refine HI.out.mono ?_); rintro e w' ⟨rfl, rfl⟩)
  go_quiet (fail)
  go_wp2_with fail
  go_ret2
  exact ⟨rfl, ⟨rfl, rfl, rfl, Nat.le_refl _, fun _ _ => rfl⟩⟩
theorem names_form (h : SnAt w B q s) : ∃ A c, q.nv = .slice A s.nms.length c := by
  rcases h.nms.2 with ⟨e, e0⟩ | ⟨b, f, c, e, _⟩
  · exact ⟨none, 0, by rw [e, e0]⟩
  · exact ⟨_, c, e⟩
theorem source_form (h : SnAt w B q s) : ∃ A c, q.sv = .slice A s.src.length c := by
  rcases h.src.2 with ⟨e, e0⟩ | ⟨b, f, c, e, _⟩
  · exact ⟨none, 0, by rw [e, e0]⟩
  · exact ⟨_, c, e⟩
theorem snnames_any (h : SnAt w B q s) : Calls Tryz.prog 11 #[.pointer (some ⟨q.p, 0, none⟩)] w fun e w' => e = .returned (.int .i64 (s.nms.length : Int)) ∧ w = w' := by
  have HI := Lib.hid (snis_any h)
  have c9 := h.c9
  obtain ⟨A, c, e⟩ := names_form h
  rw [e] at c9
  clear h e
  go_enter Tryz.func11, Tryz.ntmps11
  go_wp2_with (go_at_call 25; (with_reducible refine HI.out.mono ?_); rintro e w' ⟨rfl, rfl⟩)
  go_ret
  exact ⟨rfl, rfl⟩
end
/-- a name more -/
theorem idsOk_put {D : DataW Value} {nms : List (List UInt8)} (hD : Maps.IsMap D) (h : IdsOk D nms) {l : List UInt8} (hn : l ∉ nms) : IdsOk (D.put (.string l) (.held (.int .i64 (nms.length : Int)))) (nms ++ [l]) := by
  refine ⟨fun k => ?_, fun k hk z => ?_⟩
  · by_cases hkl : k = l
    · subst hkl
      rw [Maps.has_put_same hD (show WideAt.IsKeyLit (.string k) from True.intro)]; simp
    · rw [Maps.has_put_other (by intro e; exact hkl (by injection e)), h.1 k]
      simp [hkl]
  · by_cases hkl : k = l
    · subst hkl
      rw [Maps.atKey_put_same hD (show WideAt.IsKeyLit (.string k) from True.intro), List.idxOf_append, if_neg hn]
      simp
    · rw [Maps.atKey_put_other (by intro e; exact hkl (by injection e))]
      have hk2 : k ∈ nms := by
        rcases List.mem_append.1 hk with e | e
        · exact e
        · exact absurd (by simpa using e) hkl
      rw [h.2 k hk2, List.idxOf_append, if_pos hk2]
theorem SnAt.added {w w1 wa w2 : World} {B : Nat} {q : Sp} {s : Sn} (h : SnAt w B q s) (l : List UInt8) (hn : l ∉ s.nms) (hl : l.length ≤ 15) (hm : s.nms.length < 700) {D1 : DataW Value}
    (hm1 : w1.ownsMap Tryz.prog 9 sheld q.ib (s.nms.length + 1) D1) (hD1 : IdsOk D1 (s.nms ++ [l])) (hg1 : w.grownBy w1 (some q.ib)) (hb : Below w1.heap.size w1 wa) {g f cap : Nat}
    (hr : WRow w2 B 1 (.slice (some ⟨g, f, none⟩) (s.nms.length + 1) cap) (s.nms.length + 1) ((s.nms.map fun l => Value.string (bs l)) ++ [.string (bs l)])) (hg2 : wa.grownBy w2 q.nv.ownBlock) (hat : q.nv.ownBlock = some g ∨ g = wa.heap.size) (hB : B ≤ w.heap.size) :
    SnAt (w2.setCell ⟨q.p, 9, none⟩ (.slice (some ⟨g, f, none⟩) (s.nms.length + 1) cap)) B { q with nv := .slice (some ⟨g, f, none⟩) (s.nms.length + 1) cap } { s with nms := s.nms ++ [l] } ∧
    Sf q { q with nv := .slice (some ⟨g, f, none⟩) (s.nms.length + 1) cap } w (w2.setCell ⟨q.p, 9, none⟩ (.slice (some ⟨g, f, none⟩) (s.nms.length + 1) cap)) := by
  have s1 : w.heap.size ≤ w1.heap.size := hg1.size
  have s2 : w1.heap.size ≤ wa.heap.size := hb.size
  have s3 : wa.heap.size ≤ w2.heap.size := hg2.size
  have K : ∀ k, k < w.heap.size → k ≠ q.ib → q.nv.ownBlock ≠ some k → w2.heap[k]? = w.heap[k]? := fun k hk h1 h2 => by
    rw [hg2.block k (by omega) (fun e => h2 e.symm), hb.block k (by omega), hg1.block k hk (fun e => h1 (Option.some.inj e))]
  have hgp : g ≠ q.p := by
    rcases hat with e | e
    · intro e2; exact h.np (by rw [e, e2])
    · have := h.lt; omega
  have hgi : g ≠ q.ib := by
    rcases hat with e | e
    · intro e2; exact h.ni (by rw [e, e2])
    · have := h.li; omega
  have hgg : g ≠ q.gb := by
    rcases hat with e | e
    · intro e2; exact h.ng (by rw [e, e2])
    · have := h.lg; omega
  have hgs : q.sv.ownBlock = none ∨ q.sv.ownBlock ≠ some g := by
    rcases hat with e | e
    · rw [← e]; exact h.sn
    · cases hs : q.sv.ownBlock with
      | none => exact .inl rfl
      | some k => right; intro e2; have := (h.src.lt k hs).2; have := Option.some.inj e2; omega
  have kp := K q.p h.lt (fun e => h.ip e.symm) h.np
  have e1 : ∀ i, w2.cell? ⟨q.p, i, none⟩ = w.cell? ⟨q.p, i, none⟩ := fun i => World.cell?_of_block kp
  have e3 : ∀ i, w2.frozen? ⟨q.p, i, none⟩ = w.frozen? ⟨q.p, i, none⟩ := fun i => World.frozen?_of_block kp
  have hbl : ∀ k, k ≠ q.p → (w2.setCell ⟨q.p, 9, none⟩ (.slice (some ⟨g, f, none⟩) (s.nms.length + 1) cap)).heap[k]? = w2.heap[k]? := fun k hk => Below.heap_setCell _ _ _ _ hk
  obtain ⟨D', d3, d4⟩ := h.sgn
  refine ⟨⟨h.bp, by rw [snsize_setCell]; have := h.lt; show q.p < _; omega, fun j v hv => ?_, fun j hj => ?_, ?_, ?_, ⟨D1, ?_, hD1⟩, ⟨D', ?_, d4⟩, h.bi, h.bg, h.sp, ?_, hgs, h.ip, h.si, ?_, h.gp, h.gi, h.sg, ?_, ?_, by simp; omega, ?_, h.l1, h.sb, h.at1⟩, ⟨?_, ?_, ?_, ?_, fun k hk a b c => ?_, rfl, rfl, rfl, rfl, ?_⟩⟩
  · rw [Nat.zero_add]
    by_cases hj : j = 9
    · subst hj
      have hv2 : Value.slice (some ⟨g, f, none⟩) (s.nms.length + 1) cap = v := Option.some.inj hv
      rw [← hv2]
      exact World.cell?_setCell_same _ _ _ (by rw [e1]; exact h.c9)
    · rw [World.cell?_setCell_other _ _ _ _ (fun e => hj (by injection e with _ e2 _; omega)), e1]
      refine h.c j v ?_
      match j, hv with
      | 0, hv | 1, hv | 2, hv | 3, hv | 4, hv | 5, hv | 6, hv | 7, hv | 8, hv | 10, hv | 11, hv | 12, hv => exact hv
      | 9, hv => exact absurd rfl hj
      | n + 13, hv => cases hv
  · have hj2 := h.bt j hj
    rw [Nat.zero_add] at *
    refine ⟨?_, by rw [World.frozen?_setCell, e3]; exact hj2.2⟩
    by_cases hj9 : j = 9
    · subst hj9
      rw [World.cell?_setCell_same _ _ _ (by rw [e1]; exact h.c9)]; rfl
    · rw [World.cell?_setCell_other _ _ _ _ (fun e => hj9 (by injection e with _ e2 _; omega)), e1]; exact hj2.1
  · refine (WRow.other (w := w2) (v := q.sv) ?_ _ h.sp)
    refine ⟨h.src.1, ?_⟩
    rcases h.src.2 with hn | ⟨b, f, c, e, hb, hl, h1, h2, h3, h4⟩
    · exact .inl hn
    · have hs : q.sv.ownBlock = some b := by rw [e]; rfl
      have hk2 := K b hl (fun e2 => h.si (by rw [hs, e2])) (fun e2 => by
        rcases h.sn with e3 | e3
        · rw [hs] at e3; cases e3
        · exact e3 (by rw [hs, e2]))
      exact .inr ⟨b, f, c, e, hb, by omega, h1, h2, fun j x hx => by rw [World.cell?_of_block (w := w) hk2]; exact h3 j x hx, fun j hj => by rw [World.cell?_of_block (w := w) hk2, World.frozen?_of_block (w := w) hk2]; exact h4 j hj⟩
  · have hr2 := WRow.other (b := q.p) (o := 9) hr (.slice (some ⟨g, f, none⟩) (s.nms.length + 1) cap) (by intro e; exact hgp (Option.some.inj e))
    have e5 : (s.nms ++ [l]).length = s.nms.length + 1 := by simp
    show WRow _ B 1 _ (s.nms ++ [l]).length ((s.nms ++ [l]).map _)
    rw [e5, List.map_append]
    exact hr2
  · show World.ownsMap _ Tryz.prog 9 sheld q.ib (s.nms ++ [l]).length D1
    rw [show (s.nms ++ [l]).length = s.nms.length + 1 by simp]
    refine ownsMap_below hm1 ?_
    have hl1 := hm1.lt
    rw [hbl _ h.ip, hg2.block _ (by omega) (fun e => h.ni e.symm), hb.block _ hl1]
  · exact ownsMap_below d3 (by rw [hbl _ h.gp]; exact K _ h.lg h.gi h.ng)
  · intro e; exact hgp (Option.some.inj e)
  · intro e; exact hgi (Option.some.inj e)
  · intro e; exact hgg (Option.some.inj e)
  · exact List.nodup_append.2 ⟨h.nd, by simp, fun a ha b hb => by
      obtain rfl : b = l := by simpa using hb
      intro e; subst e; exact hn ha⟩
  · intro k hk
    rcases List.mem_append.1 hk with e | e
    · exact h.ns k e
    · obtain rfl : k = l := by simpa using e
      exact hl
  · show w2.os = w.os
    rw [hg2.os, hb.os, hg1.os]
  · show w2.tape = w.tape
    rw [hg2.tape, hb.tape, hg1.tape]
  · show w2.output = w.output
    rw [hg2.output, hb.output, hg1.output]
  · rw [snsize_setCell]; omega
  · rw [hbl _ a]; exact K k hk c b
  · rcases hat with e | e
    · left; exact e.symm
    · right; intro k hk
      obtain rfl : g = k := Option.some.inj hk
      omega
end Go.Proofs.YthpdgghjaglhnaaGreatDoor
