/-
  Put of a new name.
-/
import Derived.Test.YtbpelchampegaaaStoreH
namespace Go.Proofs.Ytbpelchampegaaa
open Go.ChangeShapes Go.WideShapes Go.ChangeAt Go.RowKit
set_option linter.unusedVariables false
section
variable {w : World} {B p : Nat} {s : StM} {g : Nat → Tag}
theorem size_le (h : StoreAt w B p s g) : Maps.size s.D ≤ s.mn := h.hm.size_le
theorem own_low {w : World} {b b' : Nat} {T : TypeId} {sz : Nat} {v : Value} {n : Nat} {xs : List Value} (h : w.ownsRow b T sz v n xs) (hb : b' ≤ b) : w.ownsRow b' T sz v n xs := by
  refine ⟨h.1, ?_⟩
  rcases h.2 with hn | ⟨g, cap, cur, e, hg, rest⟩
  · exact .inl hn
  · exact .inr ⟨g, cap, cur, e, by omega, rest⟩
theorem putEnd {V w2 w5 : World} (h : StoreAt V B p s g) (hB : B ≤ V.heap.size) (hmn : s.mn < 1000000) {nm : ByteArray} {zs : List Int} (hs : nm.size ≤ maxLen) (hz : ∀ z ∈ zs, 0 ≤ z ∧ z ≤ 255) {n : Nat} (hlz : zs.length = n) (hfit : s.used + n ≤ s.cap) (hn : n ≤ s.cap) (hb : Below V.drew.heap.size V.drew w2) {A' : Option Addr} {c' : Nat}
    (ho : w2.ownsRow V.drew.heap.size 5 1 (.slice A' n c') n (valsOf .u8 zs)) {D : DataW Value} (hm5 : w5.ownsMap Try.prog 9 heldE s.mb (s.mn + 1) D)
    (hg5 : (w2.alloc (.cells #[.string nm, .slice A' n c', .bool false] 57)).grownBy w5 (some s.mb)) :
    ∃ g', StoreAt (w5.setCell ⟨p, 2, none⟩ (.int .i64 ((s.used : Int) + n))) B p { s with fs := s.fs ++ [⟨w2.heap.size, nm, .slice A' n c', zs, false⟩], D := D, mn := s.mn + 1, used := s.used + n } g' ∧ Below B V (w5.setCell ⟨p, 2, none⟩ (.int .i64 ((s.used : Int) + n))) := by
  have hV : StoreAt V.drew B p s g := h.drew
  have e0 : V.drew.heap.size = V.heap.size := rfl
  have hs2 := hb.size
  have hlt : ∀ b, (Value.slice A' n c').ownBlock = some b → V.drew.heap.size ≤ b ∧ b < w2.heap.size := ho.lt
  obtain ⟨g1, hA⟩ := hV.addFile (W := w2.alloc (.cells #[.string nm, .slice A' n c', .bool false] 57)) (f := ⟨w2.heap.size, nm, .slice A' n c', zs, false⟩) hB
    (fun c hc => by rw [Below.heap_alloc _ _ _ (Nat.lt_of_lt_of_le hc hs2)]; exact hb.block c hc) hs2 (heap_alloc_new w2 _)
    (by show World.ownsRow _ B _ 1 (.slice A' n c') zs.length (vals .u8 zs)
        rw [hlz]
        exact (own_low ho hB).alloc _)
    (fun b hb => ⟨(hlt b hb).1, by have := (hlt b hb).2; show b ≠ w2.heap.size; omega⟩) ⟨hs, by show zs.length ≤ s.cap; omega, hz⟩
  have hD := hA.setDir (W := w5) (fun c hc hn => hg5.block c hc (fun e => hn (Option.some.inj e))) hm5 (by omega)
  have hU := hD.setUsed (n := s.used + n) hfit
  refine ⟨g1, hU, Below.setCell (p := ⟨p, 2, none⟩) ?_ h.pB _⟩
  exact ⟨hg5.os.trans hb.os, hg5.tape.trans hb.tape, hg5.output.trans hb.output, Nat.le_trans hs2 (Nat.le_trans (by simp) hg5.size), fun c hc => by
    have hc2 : c < w2.heap.size := by omega
    rw [hg5.block c (by simp; omega) (fun e => by have := Option.some.inj e; have := h.mB; omega), Below.heap_alloc _ _ _ hc2]
    exact hb.block c (by omega)⟩
set_option maxHeartbeats 4000000 in
theorem put_new (h : StoreAt w B p s g) (hBw : B ≤ w.heap.size) {nm : ByteArray} (hs : nm.size ≤ maxLen) (hm : May w nm) (hd : s.dir nm = .held (.pointer none)) (hmn : s.mn < 200) {A : Option Addr} {n c : Nat} {zs : List Int} (hrd : Rd w w.heap.size .u8 A n zs) (hz : ∀ z ∈ zs, 0 ≤ z ∧ z ≤ 255) (hfit : s.used + n ≤ s.cap) :
    Calls Try.prog 10 #[.pointer (some ⟨p, 0, none⟩), .string nm, .slice A n c] w fun e w' => e = .returned (.int .i64 0) ∧ ∃ v blk g', StoreAt w' B p { s with fs := s.fs ++ [⟨blk, nm, v, zs, false⟩], D := s.D.put (.string nm.data.toList) (.held (.pointer (some ⟨blk, 0, none⟩))), mn := s.mn + 1, used := s.used + n } g' ∧ Below B w w' := by
  obtain ⟨c0, c1, c2, c3, c4, z⟩ := h.cells
  have pz2 := z 2
  obtain ⟨hu1, hu2, -, -⟩ := h.used
  have hl : ∀ m, (Instr.lookup 50 (.map (some s.mb)) (.string nm) false).run Try.prog (w.drewN m) = .ok (.pointer none) (w.drewN m) := fun m => (h.rest ((Rest.refl _).drewN m)).look hs hd
  have hlen : ∀ m, (Builtin.len_ #[50] 3 #[.map (some s.mb)]).run Try.prog (w.drewN m) = .ok (.int .i64 (Maps.size s.D)) (w.drewN m) := fun m => (h.rest ((Rest.refl _).drewN m)).hm.len Try.underlying50 3
  have hsz := size_le h
  have HS := Lib.hid h
  have HM := Lib.hid hm
  have hcl : ∀ m, Rd (w.drewN m) (w.drewN m).heap.size .u8 A n zs := fun m => hrd
  have HCL := Lib.hid hcl
  have hHN : s.mn < 1000000 := by omega
  have hd1 : decide ((n : Int) > (s.cap : Int) - s.used) = false := by simp; omega
  have HL := Lib.hid hl
  have HLEN := Lib.hid hlen
  have hmn2 : decide ((Maps.size s.D : Int) ≥ 200) = false := by simp; omega
  clear h z hm hrd hcl hl hlen hsz
  go_enter Try.func10, Try.ntmps10
  go_wp2_with (first | (go_at_call 25; refine (sis_any HS.out).mono ?_; rintro e w' ⟨rfl, rfl⟩) | (go_at_call 26; refine (HM.out _).mono ?_; rintro e w' ⟨rfl, rfl⟩) | (go_at_call 27; refine (room_q HS.out).mono ?_; rintro e w' ⟨rfl, nd, rfl⟩; have hl := HL.out nd; have hlen := HLEN.out nd) | (go_at_call 28; refine (unlist_none (HS.out.rest ((Rest.refl _).drewN _)) hs hd).mono ?_; rintro e w' ⟨rfl, rfl⟩))
  have HV : Rest w' (w'.drewN nd) := (Rest.refl _).drewN nd
  have HSV := Lib.hid (HS.out.rest HV)
  have HR := HCL.out nd
  have hBV : B ≤ (w'.drewN nd).heap.size := hBw
  have HVB := Lib.hid (HV.below B)
  have hlz : zs.length = n := HR.1
  have HCC := Lib.hid (clone_any (w := (w'.drewN nd).drew) A n c zs HR (by omega))
  clear HV HR hl hlen HL HLEN HCL HM c0 c1 c2 c3 c4 pz2 HS hBw
  generalize w'.drewN nd = V at *
  obtain ⟨c0, c1, c2, c3, c4, pz⟩ := HSV.out.cells
  clear pz
  go_region_law (refine step_callS rfl 29 _ _ rfl #[.slice A n c] (by rfl) (by rfl) HCC.out ?_; rintro e w2 ⟨v, rfl, ho, hb⟩; obtain ⟨A', c', rfl, hnc, -⟩ := rd_own ho; refine ⟨_, rfl, ?_⟩; have HV2 := Lib.hid ((HSV.out.drew).below hb); obtain ⟨-, -, -, k3, -, -⟩ := HV2.out.cells; have HX := Lib.hid (HV2.out.below (below1 w2 (.cells #[.string nm, .slice A' n c', .bool false] 57))); obtain ⟨-, -, -, x3, -, -⟩ := HX.out.cells; obtain ⟨w5, hrun, hm5, hg5⟩ := HX.out.hm.update keyedS Try.underlying50 (by unfold maxLen; omega) (keyS hs) (val := .pointer (some ⟨w2.heap.size, 0, none⟩)) (d := .held (.pointer (some ⟨w2.heap.size, 0, none⟩))) (ps := []) rfl; have HM5 := Lib.hid hm5; have HG5 := Lib.hid hg5; have HO := Lib.hid ho; have HB2 := Lib.hid hb; clear hm5 hg5 ho hb)
  all_goals
    have HP := Lib.hid (putEnd (V := V) HSV.out hBV hHN (nm := nm) (zs := zs) hs hz hlz hfit (by omega) HB2.out HO.out HM5.out HG5.out)
    obtain ⟨-, -, y2, -, -, yz⟩ := HX.out.cells
    have hpm : some p ≠ some s.mb := fun e => by have := Option.some.inj e; exact tag_ne HSV.out.gp HSV.out.gm (by simp) this
    have hpl := HX.out.lp
    have q2 : w5.cell? ⟨p, 2, none⟩ = some (.int .i64 (s.used : Int)) := by rw [HG5.out.cell_far _ hpl hpm]; exact y2
    have qz : w5.frozen? ⟨p, 2, none⟩ = false := by rw [HG5.out.frozen_far _ hpl hpm]; exact yz 2
    clear yz y2 c0 c1 c2 c3 c4 k3 x3 hrun HV2 HX HM5 HG5 HO HB2 HCC HSV hpm hpl
    go_wp2_with fail
    go_ret
    obtain ⟨g', hA, hB⟩ := HP.out
    exact ⟨rfl, _, _, g', hA, HVB.out.trans hB⟩
end
end Go.Proofs.Ytbpelchampegaaa
