/-
  More of a store: a file taken out of the directory, another one laid in; a new file; what there is not.
-/
import Derived.Test.YtbpelchampegaaaStoreM
import Derived.LaidEql
namespace Go.Proofs.Ytbpelchampegaaa
open Go.ChangeShapes Go.WideShapes Go.ChangeAt Go.RowKit
set_option linter.unusedVariables false
section
variable {w : World} {B p : Nat} {s : StM} {g : Nat → Tag}
def StM.out (s : StM) (nm : ByteArray) : StM := { s with D := s.D.del (.string nm.data.toList) }
set_option maxHeartbeats 1000000 in
theorem unlist_rid (h : StoreAt w B p s g) {nm : ByteArray} (hs : nm.size ≤ maxLen) {i : Nat} {q : FileM} (hq : s.fs[i]? = some q) (hr : q.rid = true) (hd : s.dir nm = .held (.pointer (some ⟨q.blk, 0, none⟩))) :
    Calls Try.prog 28 #[.pointer (some ⟨p, 0, none⟩), .string nm] w fun e w' => e = .returned (.tuple #[]) ∧ StoreAt w' B p (s.out nm) g ∧ Below B w w' := by
  obtain ⟨c0, c1, c2, c3, c4, z⟩ := h.cells
  obtain ⟨f0, f1, f2, fz⟩ := h.file hq
  rw [hr] at f2
  have hl := h.look hs hd
  have HO := Lib.hid h.hm
  have hqm : some q.blk ≠ some s.mb := fun e => tag_ne (h.gf _ q hq) h.gm (by simp) (Option.some.inj e)
  have hql := h.lf hq
  have HS := Lib.hid h
  clear h z fz
  go_enter Try.func28, Try.ntmps28
  go_wp2_with (at_delete; refine wpList_delete_own _ rfl _ _ 50 9 rfl 55 keyedS Try.underlying50 heldE s.mb s.mn s.D rfl HO.out _ _ rfl (keyS hs) ?_; intro w1 hown1 hturn1; have k2 : w1.cell? ⟨q.blk, 2, none⟩ = some (.bool true) := (by rw [hturn1.grown.cell_far _ hql hqm]; exact f2); have HOW := Lib.hid hown1; have HT := Lib.hid hturn1; clear hown1 hturn1)
  go_end0
  have hg := HT.out.grown
  refine ⟨rfl, HS.out.setDir (fun c hc hn => hg.block c hc (fun e => hn (Option.some.inj e))) HOW.out HS.out.used.2.2.2, ⟨hg.os, hg.tape, hg.output, hg.size, fun c hc => ?_⟩⟩
  have := HS.out.mB
  exact hg.block c (by have := HS.out.lm; omega) (fun e => by have := Option.some.inj e; omega)
theorem delete_rid (h : StoreAt w B p s g) {nm : ByteArray} (hs : nm.size ≤ maxLen) {i : Nat} {q : FileM} (hq : s.fs[i]? = some q) (hr : q.rid = true) (hd : s.dir nm = .held (.pointer (some ⟨q.blk, 0, none⟩))) :
    Calls Try.prog 19 #[.pointer (some ⟨p, 0, none⟩), .string nm] w fun e w' => e = .returned (.tuple #[]) ∧ StoreAt w' B p (s.out nm) g ∧ Below B w w' := by
  have HU := Lib.hid (unlist_rid h hs hq hr hd)
  have HS := Lib.hid h
  clear h
  go_enter Try.func19, Try.ntmps19
  go_wp2_with (first | (go_at_call 25; refine (sis_any HS.out).mono ?_; rintro e w' ⟨rfl, rfl⟩) | (go_at_call 28; refine HU.out.mono ?_; rintro e w2 ⟨rfl, hA, hB⟩; have HA := Lib.hid hA; have HB := Lib.hid hB; clear hA hB))
  go_end0
  exact ⟨rfl, HA.out, HB.out⟩
theorem neq_ptr {V : World} (h : StoreAt V B p s g) {i j : Nat} {q q1 : FileM} (hq : s.fs[i]? = some q) (hq1 : s.fs[j]? = some q1) (hn : q1.blk ≠ q.blk) : (binOp .neq 55 (.pointer (some ⟨q1.blk, 0, none⟩)) (.pointer (some ⟨q.blk, 0, none⟩))).run Try.prog V = .ok (.bool true) V := by
  obtain ⟨d, hd⟩ : ∃ d, Op.maxDepth = d + 1 := ⟨9999, rfl⟩
  rw [show binOp .neq 55 (.pointer (some ⟨q1.blk, 0, none⟩)) (.pointer (some ⟨q.blk, 0, none⟩)) = (do pure (.bool (!(← Op.equal 55 (.pointer (some ⟨q1.blk, 0, none⟩)) (.pointer (some ⟨q.blk, 0, none⟩))))) : Sem Value) from rfl, Op.equal, hd]
  have hne : (⟨q1.blk, 0, none⟩ : Addr) ≠ ⟨q.blk, 0, none⟩ := fun e => hn (congrArg Addr.block e)
  have hs : (sameAddr ⟨q1.blk, 0, none⟩ ⟨q.blk, 0, none⟩).run Try.prog V = .ok false V := run_sameAddr_other _ hne (h.hf _ q1 hq1) (h.hf _ q hq)
  simp [Op.equalIn, run_underlying Try.underlying55, hs, Result.andThen]
theorem dir_out {nm : ByteArray} : (s.out nm).dir nm = .held (.pointer none) := by
  unfold StM.dir StM.out
  exact Maps.atKey_del_same _
set_option maxHeartbeats 2000000 in
theorem register_over (h : StoreAt w B p s g) (hBw : B ≤ w.heap.size) {f : Int} {i : Nat} {r : Nat × Nat} {b cap : Nat} (hR : Rid w s f i r b cap) {q : FileM} (hq : s.fs[r.1]? = some q) {j : Nat} {q1 : FileM} (hq1 : s.fs[j]? = some q1) (hne : j ≠ r.1) (hr : q1.rid = true) (hd : s.dir q.nm = .held (.pointer (some ⟨q1.blk, 0, none⟩))) (hmn : s.mn < 1000) :
    Calls Try.prog 16 #[.pointer (some ⟨p, 0, none⟩), .int .i64 f] w fun e w' => e = .returned (.int .i64 0) ∧ StoreAt w' B p { s with D := (s.D.del (.string q.nm.data.toList)).put (.string q.nm.data.toList) (.held (.pointer (some ⟨q.blk, 0, none⟩))), mn := s.mn + 1 } g ∧ Below B w w' := by
  obtain ⟨c0, c1, c2, c3, c4, z⟩ := h.cells
  obtain ⟨f0, f1, f2, fz⟩ := h.file hq
  have hs : q.nm.size ≤ maxLen := (h.ok _ q hq).1
  have hl : ∀ m, (Instr.lookup 50 (.map (some s.mb)) (.string q.nm) false).run Try.prog (w.drewN m) = .ok (.pointer (some ⟨q1.blk, 0, none⟩)) (w.drewN m) := fun m => (h.rest ((Rest.refl _).drewN m)).look hs hd
  have hbn : q1.blk ≠ q.blk := tag_ne (h.gf _ q1 hq1) (h.gf _ q hq) (by simpa using hne)
  have HU := fun m => unlist_rid (h.rest ((Rest.refl w).drewN m)) hs hq1 hr hd
  have HU := Lib.hid HU
  have HS := Lib.hid h
  have HR := Lib.hid hR
  obtain ⟨-, -, hrow, r0, r1, rz⟩ := hR
  rw [blkOf_at hq] at r0
  clear h z fz
  go_enter Try.func16, Try.ntmps16
  go_wp2_with (first | (go_at_call 25; refine (sis_any HS.out).mono ?_; rintro e w' ⟨rfl, rfl⟩) | (go_at_call 34; refine (rider_yes HS.out HR.out).mono ?_; rintro e w' ⟨rfl, rfl⟩))
  go_quiet (fail)
  go_wp2_with fail
  have HV : Rest w' (w'.drewN nq) := (Rest.refl _).drewN nq
  have HSV := Lib.hid (HS.out.rest HV)
  have HRV := Lib.hid (HR.out.rest HV)
  have HVB := Lib.hid (HV.below B)
  have hBV : B ≤ (w'.drewN nq).heap.size := hBw
  clear c0 c1 c2 c3 c4 f0 f1 f2 hl r0 r1 rz HS HR HV HU
  generalize w'.drewN nq = V at *
  obtain ⟨-, -, r0, r1, rz⟩ := HRV.out.row |> fun _ => HRV.out |> fun h => (⟨h.num, h.row, h.c0, h.c1, h.fz⟩ : _ ∧ _ ∧ _ ∧ _ ∧ _)
  rw [blkOf_at hq] at r0
  obtain ⟨c0, c1, c2, c3, c4, z⟩ := HSV.out.cells
  obtain ⟨f0, f1, f2, fz⟩ := HSV.out.file hq
  have hl : ∀ m, (Instr.lookup 50 (.map (some s.mb)) (.string q.nm) false).run Try.prog (V.drewN m) = .ok (.pointer (some ⟨q1.blk, 0, none⟩)) (V.drewN m) := fun m => (HSV.out.rest ((Rest.refl _).drewN m)).look hs hd
  have hneq : ∀ m, (binOp .neq 55 (.pointer (some ⟨q1.blk, 0, none⟩)) (.pointer (some ⟨q.blk, 0, none⟩))).run Try.prog (V.drewN m) = .ok (.bool true) (V.drewN m) := fun m => neq_ptr (HSV.out.rest ((Rest.refl _).drewN m)) hq hq1 hbn
  clear z fz
  go_quiet (fail)
  have HU := Lib.hid (unlist_rid (HSV.out.rest ((Rest.refl V).drewN nq)) hs hq1 hr hd)
  have HVB2 := Lib.hid (HVB.out.trans (((Rest.refl V).drewN nq).below B))
  clear hl
  go_wp2_with (go_at_call 28; refine HU.out.mono ?_; rintro e w2 ⟨rfl, hA, hB⟩; have HA := Lib.hid hA; have HB := Lib.hid (HVB2.out.trans hB); clear hA hB)
  obtain ⟨b2, cap2, hR2, -, -⟩ := HA.out.rid (i := i) (r := r) HRV.out.at_ rfl
  obtain ⟨rfl, -⟩ : b = b2 ∧ True := by
    have e := hR2.row
    have e2 : (s.out q.nm).rv = s.rv := rfl
    rw [e2, hrow] at e
    simp at e
    exact ⟨e.1, trivial⟩
  clear c0 c1 c2 c3 c4 f0 f1 f2 r0 r1 rz HU HSV HRV HVB HVB2
  have r0 := hR2.c0
  have r1 := hR2.c1
  have eb : (s.out q.nm).blkOf r.1 = q.blk := blkOf_at (s := s.out q.nm) hq
  rw [eb] at r0
  obtain ⟨c0, c1, c2, c3, c4, z⟩ := HA.out.cells
  obtain ⟨f0, f1, f2, fz⟩ := HA.out.file (s := s.out q.nm) hq
  obtain ⟨w5, hrun, hm5, hg5⟩ := (HA.out.drew).hm.update keyedS Try.underlying50 (by show s.mn < maxLen; unfold maxLen; omega) (keyS hs) (val := .pointer (some ⟨q.blk, 0, none⟩)) (d := .held (.pointer (some ⟨q.blk, 0, none⟩))) (ps := []) rfl
  have c3 : w2.cell? ⟨p, 3, none⟩ = some (.map (some s.mb)) := c3
  have hrun : (Instr.mapUpdate 50 (.map (some s.mb)) (.string q.nm) (.pointer (some ⟨q.blk, 0, none⟩))).run Try.prog w2.drew = .ok () w5 := hrun
  have HM5 := Lib.hid hm5
  have HG5 := Lib.hid hg5
  clear hm5 hg5 z fz hR2 eb
  go_region_with (fail)
  all_goals
    go_wp2_with fail
    go_ret
    refine ⟨rfl, (HA.out.drew).setDir (fun c hc hn => HG5.out.block c hc (fun e => hn (Option.some.inj e))) HM5.out (by show s.mn + 1 ≤ _; omega), HB.out.trans ⟨HG5.out.os, HG5.out.tape, HG5.out.output, HG5.out.size, fun c hc => ?_⟩⟩
    have h1 := HA.out.mB
    have h2 := HA.out.lm
    have h3 := HA.out.pB
    have h4 := HA.out.lp
    exact HG5.out.block c (by show c < w2.heap.size; omega) (fun e => by have := Option.some.inj e; omega)
theorem find_no (h : StoreAt w B p s g) {nm : ByteArray} (hs : nm.size ≤ maxLen) (hm : May w nm) (hd : s.dir nm = .held (.pointer none)) : Calls Try.prog 33 #[.pointer (some ⟨p, 0, none⟩), .string nm] w fun e w' => e = .returned (.int .i64 6) ∧ w' = w := by
  obtain ⟨c0, c1, c2, c3, c4, z⟩ := h.cells
  have hl := h.look hs hd
  have HS := Lib.hid h
  have HM := Lib.hid hm
  clear h z hm
  go_enter Try.func33, Try.ntmps33
  go_wp2_with (first | (go_at_call 25; refine (sis_any HS.out).mono ?_; rintro e w' ⟨rfl, rfl⟩) | (go_at_call 26; refine (HM.out _).mono ?_; rintro e w' ⟨rfl, rfl⟩))
  go_ret
  exact ⟨rfl, rfl⟩
theorem get_no (h : StoreAt w B p s g) {nm : ByteArray} (hs : nm.size ≤ maxLen) (hm : May w nm) (hd : s.dir nm = .held (.pointer none)) : Calls Try.prog 15 #[.pointer (some ⟨p, 0, none⟩), .string nm] w fun e w' => e = .returned (.tuple #[.slice none 0 0, .int .i64 6]) ∧ w' = w := by
  have HF := Lib.hid (find_no h hs hm hd)
  clear h hm
  go_enter Try.func15, Try.ntmps15
  go_wp2_with (go_at_call 33; refine HF.out.mono ?_; rintro e w' ⟨rfl, rfl⟩)
  go_ret2
  exact ⟨rfl, rfl⟩
theorem old_no (h : StoreAt w B p s g) {nm : ByteArray} (hs : nm.size ≤ maxLen) (hd : s.dir nm = .held (.pointer none)) : Calls Try.prog 11 #[.pointer (some ⟨p, 0, none⟩), .string nm] w fun e w' => e = .returned (.int .i64 0) ∧ w' = w := by
  obtain ⟨c0, c1, c2, c3, c4, z⟩ := h.cells
  have hl := h.look hs hd
  obtain ⟨a, cap, hrv⟩ : ∃ a cap, s.rv = .slice a s.rs.length cap := by
    rcases h.hr.2 with ⟨h1, h2⟩ | ⟨b, cap, cur, h1, -⟩
    · exact ⟨none, 0, by rw [h1, h2]⟩
    · exact ⟨_, cap, h1⟩
  rw [hrv] at c4
  have HS := Lib.hid h
  by_cases hn : 255 ≤ s.rs.length
  · have hdl : decide ((s.rs.length : Int) ≥ 255) = true := by simp; omega
    clear h z hrv
    go_enter Try.func11, Try.ntmps11
    go_wp2_with (go_at_call 25; refine (sis_any HS.out).mono ?_; rintro e w' ⟨rfl, rfl⟩)
    go_ret
    exact ⟨rfl, rfl⟩
  · have hdl : decide ((s.rs.length : Int) ≥ 255) = false := by simp; omega
    clear h z hrv
    go_enter Try.func11, Try.ntmps11
    go_wp2_with (go_at_call 25; refine (sis_any HS.out).mono ?_; rintro e w' ⟨rfl, rfl⟩)
    go_ret
    exact ⟨rfl, rfl⟩
theorem read_end (h : StoreAt w B p s g) {f : Int} {i : Nat} {r : Nat × Nat} {b cap : Nat} (hR : Rid w s f i r b cap) {q : FileM} (hq : s.fs[r.1]? = some q) (he : r.2 = q.xs.length) : Calls Try.prog 20 #[.pointer (some ⟨p, 0, none⟩), .int .i64 f] w fun e w' => e = .returned (.int .u8 0) ∧ Rest w w' := by
  have HS := Lib.hid h
  have HR := Lib.hid hR
  obtain ⟨-, -, -, r0, r1, rz⟩ := hR
  rw [blkOf_at hq] at r0
  obtain ⟨f0, f1, f2, -⟩ := h.file hq
  obtain ⟨a, c, e, -⟩ := h.slice hq
  rw [e] at f1
  have hd : ((r.2 : Int) == (q.xs.length : Int)) = true := by simp; omega
  clear h e
  go_enter Try.func20, Try.ntmps20
  go_wp2_with (go_at_call 34; refine (rider_yes HS.out HR.out).mono ?_; rintro e w' ⟨rfl, rfl⟩)
  go_quiet (fail)
  go_wp2_with fail
  go_ret
  exact ⟨rfl, (Rest.refl _).drewN _⟩
set_option maxHeartbeats 1000000 in
theorem fresh_any (h : StoreAt w B p s g) (hBw : B ≤ w.heap.size) {nm : ByteArray} (hs : nm.size ≤ maxLen) (hm : May w nm) (hl : s.rs.length < 255) :
    Calls Try.prog 12 #[.pointer (some ⟨p, 0, none⟩), .string nm] w fun e w' => e = .returned (.int .i64 ((s.rs.length : Int) + 1)) ∧ (∃ rv blk g', StoreAt w' B p { s with fs := s.fs ++ [⟨blk, nm, .slice none 0 0, [], true⟩], rv := rv, rs := s.rs ++ [(s.fs.length, 0)] } g') ∧ Below B w w' := by
  obtain ⟨c0, c1, c2, c3, c4, z⟩ := h.cells
  obtain ⟨a, cap, hrv⟩ : ∃ a cap, s.rv = .slice a s.rs.length cap := by
    rcases h.hr.2 with ⟨h1, h2⟩ | ⟨b, cap, cur, h1, -⟩
    · exact ⟨none, 0, by rw [h1, h2]⟩
    · exact ⟨_, cap, h1⟩
  rw [hrv] at c4
  have hdl : decide ((s.rs.length : Int) ≥ 255) = false := by simp; omega
  have hb := below1 w (.cells #[.string nm, .slice none 0 0, .bool false] 57)
  obtain ⟨g1, hA⟩ := h.addFile (W := w.alloc (.cells #[.string nm, .slice none 0 0, .bool false] 57)) (f := ⟨w.heap.size, nm, .slice none 0 0, [], false⟩) hBw (fun c hc => hb.block c hc) (Nat.le_refl _) (heap_alloc_new w _) (World.ownsRow_nil _ _ _ _) (fun b hb => by simp [Value.ownBlock] at hb) ⟨hs, Nat.zero_le _, fun x hx => by simp at hx⟩
  have HR := Lib.hid (ride_any (i := s.fs.length) (q := ⟨w.heap.size, nm, .slice none 0 0, [], false⟩) hA (Nat.le_trans hBw hb.size) (by simp) hl)
  have HS := Lib.hid h
  have HM := Lib.hid hm
  have HB := Lib.hid (hb.mono hBw)
  clear h z hm hrv hb hA
  go_enter Try.func12, Try.ntmps12
  go_wp2_with (first | (go_at_call 25; refine (sis_any HS.out).mono ?_; rintro e w' ⟨rfl, rfl⟩) | (go_at_call 26; refine (HM.out _).mono ?_; rintro e w' ⟨rfl, rfl⟩) | (go_at_call 30; refine HR.out.mono ?_; rintro e w2 ⟨rfl, rv, g', hA, hB⟩; have HA := Lib.hid hA; have HB2 := Lib.hid (HB.out.trans hB); clear hA hB))
  go_ret
  refine ⟨rfl, ⟨rv, w'.heap.size, g', ?_⟩, HB2.out⟩
  have := HA.out
  unfold StM.rode at this
  simp only [List.set_append, Nat.sub_self, Nat.lt_irrefl, if_false, List.set_cons_zero] at this
  exact this
end
end Go.Proofs.Ytbpelchampegaaa
