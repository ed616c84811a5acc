/-
  For every act: whether it may be told, and its text, is what the document says, and a copy of it stays as it was; whatever the world holds.
-/
import Derived.Test.YtlodoilihminaaaDoorScrY
import Derived.Test.YtlodoilihminaaaDoorCards
import Derived.Test.YtlodoilihminaaaDoorTie
import Derived.Deep.DeepHandedRow
import Derived.Lib.LaidTab
import Derived.SevenTiedAt
import Derived.Stop.Joined
namespace Go.Proofs.YtlodoilihminaaaDoor.scriptActs
open Go.ChangeShapes Go.WideShapes Go.ChangeAt Go.RowKit
open Go.ChangeMaps (open_string shut_string)
set_option linter.unusedVariables false
set_option linter.unusedSimpArgs false
/-- the law's two boxes: the act as it came in, its copy -/
structure Two (w W : World) (a : Ac) (bA : Option Addr) (bn bc : Nat) (nA : Option Addr) (nn nc : Nat) (bA' : Option Addr) (bn' bc' : Nat) (nA' : Option Addr) (nn' nc' : Nat) (p q : Nat) : Prop where
  hb : Below w.heap.size w W
  one : W.heap[p]? = some (.cells (actC a.kind a.name bA bn bc nA nn nc a.mem a.fuel) 26 (0, 0))
  two : W.heap[q]? = some (.cells (actC a.kind a.name bA' bn' bc' nA' nn' nc' a.mem a.fuel) 26 (0, 0))
  a1 : ActAt W a bA bn bc nA nn nc
  a2 : ActAt W a bA' bn' bc' nA' nn' nc'
section
variable {w W W' : World} {a : Ac} {bA : Option Addr} {bn bc : Nat} {nA : Option Addr} {nn nc : Nat} {bA' : Option Addr} {bn' bc' : Nat} {nA' : Option Addr} {nn' nc' : Nat} {p q : Nat}
theorem Two.below (h : Two w W a bA bn bc nA nn nc bA' bn' bc' nA' nn' nc' p q) (hb : Below W.heap.size W W') : Two w W' a bA bn bc nA nn nc bA' bn' bc' nA' nn' nc' p q :=
  ⟨h.hb.trans (hb.mono h.hb.size), (hb.block _ (Array.getElem?_eq_some_iff.1 h.one).1).trans h.one, (hb.block _ (Array.getElem?_eq_some_iff.1 h.two).1).trans h.two, h.a1.below hb, h.a2.below hb⟩
theorem Two.c1 (h : Two w W a bA bn bc nA nn nc bA' bn' bc' nA' nn' nc' p q) : W.cell? ⟨p, 0, none⟩ = some (.int .i64 a.kind) ∧ W.cell? ⟨p, 1, none⟩ = some (.string (S a.name)) ∧ W.cell? ⟨p, 2, none⟩ = some (.slice bA bn bc) ∧ W.cell? ⟨p, 3, none⟩ = some (.slice nA nn nc) ∧ W.cell? ⟨p, 4, none⟩ = some (.int .i64 a.mem) ∧ W.cell? ⟨p, 5, none⟩ = some (.int .i64 a.fuel) := by
  refine ⟨?_, ?_, ?_, ?_, ?_, ?_⟩ <;> (rw [World.cell?, h.one]; rfl)
theorem Two.c2 (h : Two w W a bA bn bc nA nn nc bA' bn' bc' nA' nn' nc' p q) : W.cell? ⟨q, 0, none⟩ = some (.int .i64 a.kind) ∧ W.cell? ⟨q, 1, none⟩ = some (.string (S a.name)) ∧ W.cell? ⟨q, 2, none⟩ = some (.slice bA' bn' bc') ∧ W.cell? ⟨q, 3, none⟩ = some (.slice nA' nn' nc') ∧ W.cell? ⟨q, 4, none⟩ = some (.int .i64 a.mem) ∧ W.cell? ⟨q, 5, none⟩ = some (.int .i64 a.fuel) := by
  refine ⟨?_, ?_, ?_, ?_, ?_, ?_⟩ <;> (rw [World.cell?, h.two]; rfl)
end
set_option maxHeartbeats 4000000 in
set_option maxRecDepth 100000 in
theorem walk (a : Ac) (bA : Option Addr) (bn bc : Nat) (nA : Option Addr) (nn nc : Nat) (w : World) (wa : ActAt w a bA bn bc nA nn nc) (wk : (Lit.int .i64 a.kind).wf = true) (hT : Tb w) :
    Calls Tryd.prog 3 #[.agg (actC a.kind a.name bA bn bc nA nn nc a.mem a.fuel)] w fun e w' => e = .returned (.bool true) ∧ Below w.heap.size w w' := by
  have HT := Lib.hid hT
  have HA := Lib.hid wa
  have HKW := Lib.hid wk
  have hq0 := heap_alloc_new w (.cells (actC a.kind a.name bA bn bc nA nn nc a.mem a.fuel) 26)
  have hb0 := sbelow1 w (.cells (actC a.kind a.name bA bn bc nA nn nc a.mem a.fuel) 26)
  have HBG := Lib.hid (fun (V : World) (hV : Below w.heap.size w V) => rbig_any V a bA bn bc nA nn nc (wa.below hV))
  have HKN := Lib.hid (fun (V : World) (hV : Below w.heap.size w V) => known_any V (hT.below hV))
  clear hT wk wa
  unfold actC at *
  go_enter Tryd.func3, Tryd.ntmps3
  go_upto_region 1 with fail
  have hs1 : (w.alloc (.cells #[.int .i64 a.kind, .string (S a.name), .slice bA bn bc, .slice nA nn nc, .int .i64 a.mem, .int .i64 a.fuel] 26)).heap.size = w.heap.size + 1 := by simp
  generalize w.alloc (.cells #[.int .i64 a.kind, .string (S a.name), .slice bA bn bc, .slice nA nn nc, .int .i64 a.mem, .int .i64 a.fuel] 26) = W1 at hq0 hb0 hs1 ⊢
  have k0 : W1.cell? ⟨w.heap.size, 0, none⟩ = some (.int .i64 a.kind) := by rw [World.cell?, hq0]; rfl
  have k1 : W1.cell? ⟨w.heap.size, 1, none⟩ = some (.string (S a.name)) := by rw [World.cell?, hq0]; rfl
  have k2 : W1.cell? ⟨w.heap.size, 2, none⟩ = some (.slice bA bn bc) := by rw [World.cell?, hq0]; rfl
  have k3 : W1.cell? ⟨w.heap.size, 3, none⟩ = some (.slice nA nn nc) := by rw [World.cell?, hq0]; rfl
  have k4 : W1.cell? ⟨w.heap.size, 4, none⟩ = some (.int .i64 a.mem) := by rw [World.cell?, hq0]; rfl
  have k5 : W1.cell? ⟨w.heap.size, 5, none⟩ = some (.int .i64 a.fuel) := by rw [World.cell?, hq0]; rfl
  have HB := Lib.hid hb0
  have HQ := Lib.hid hq0
  have HB1 := Lib.hid (HBG.out W1 hb0)
  clear hq0 hb0 hs1 HBG
  cases hbig : bigB a with
  | true =>
    rw [hbig] at HB1
    clear hbig
    go_wp2_with (first
      | (go_at_call 7; (with_reducible refine HB1.out.mono ?_); rintro e w2 ⟨rfl, hb⟩; have HB2 := Lib.hid (HB.out.trans (hb.mono HB.out.size)); clear hb)
      | (go_at_call 8; (with_reducible refine (HKN.out _ HB2.out).mono ?_); rintro e w3 ⟨rfl, hb⟩; have HB3 := Lib.hid (HB2.out.trans (hb.mono HB2.out.size)); clear hb))
    go_ret
    exact ⟨rfl, HB3.out⟩
  | false =>
    rw [hbig] at HB1
    obtain ⟨g1, g2, g3, g4⟩ := big_no hbig
    have HG := Lib.hid (⟨g1, g2, g3, g4⟩ : _ ∧ _ ∧ _ ∧ _)
    clear hbig g1 g2 g3 g4
    go_upto_region 3 with (go_at_call 7; (with_reducible refine HB1.out.mono ?_); rintro e w2 ⟨rfl, hb⟩; have HB2 := Lib.hid (HB.out.trans (hb.mono HB.out.size)); have HQ2 := Lib.hid ((hb.block _ (Array.getElem?_eq_some_iff.1 HQ.out).1).trans HQ.out); clear hb)
    clear k0 k1 k2 k3 k4 k5 HB1
    have k0 : w2.cell? ⟨w.heap.size, 0, none⟩ = some (.int .i64 a.kind) := by rw [World.cell?, HQ2.out]; rfl
    have k1 : w2.cell? ⟨w.heap.size, 1, none⟩ = some (.string (S a.name)) := by rw [World.cell?, HQ2.out]; rfl
    have k2 : w2.cell? ⟨w.heap.size, 2, none⟩ = some (.slice bA bn bc) := by rw [World.cell?, HQ2.out]; rfl
    have k3 : w2.cell? ⟨w.heap.size, 3, none⟩ = some (.slice nA nn nc) := by rw [World.cell?, HQ2.out]; rfl
    have k4 : w2.cell? ⟨w.heap.size, 4, none⟩ = some (.int .i64 a.mem) := by rw [World.cell?, HQ2.out]; rfl
    have k5 : w2.cell? ⟨w.heap.size, 5, none⟩ = some (.int .i64 a.fuel) := by rw [World.cell?, HQ2.out]; rfl
    go_upto_region 4 with fail
    have hq3 := heap_alloc_new w2 (.cells #[.int .i64 a.kind, .string (S a.name), .slice bA bn bc, .slice nA nn nc, .int .i64 a.mem, .int .i64 a.fuel] 26)
    have hp3 := (Below.heap_alloc w2 (.cells #[.int .i64 a.kind, .string (S a.name), .slice bA bn bc, .slice nA nn nc, .int .i64 a.mem, .int .i64 a.fuel] 26) _ (Array.getElem?_eq_some_iff.1 HQ2.out).1).trans HQ2.out
    have hb3 := HB2.out.alloc HB2.out.size (.cells #[.int .i64 a.kind, .string (S a.name), .slice bA bn bc, .slice nA nn nc, .int .i64 a.mem, .int .i64 a.fuel] 26)
    have hs3 : (w2.alloc (.cells #[.int .i64 a.kind, .string (S a.name), .slice bA bn bc, .slice nA nn nc, .int .i64 a.mem, .int .i64 a.fuel] 26)).heap.size = w2.heap.size + 1 := by simp
    generalize w2.alloc (.cells #[.int .i64 a.kind, .string (S a.name), .slice bA bn bc, .slice nA nn nc, .int .i64 a.mem, .int .i64 a.fuel] 26) = W3 at hq3 hp3 hb3 hs3 ⊢
    have hpq : w.heap.size < w2.heap.size := (Array.getElem?_eq_some_iff.1 HQ2.out).1
    obtain ⟨q, hqe⟩ : ∃ q, q = w2.heap.size := ⟨_, rfl⟩
    rw [← hqe] at hq3 hs3 hpq ⊢
    clear k0 k1 k2 k3 k4 k5 hqe HB2 HQ2
    obtain ⟨iu, hiu, hz0, hz1, hz2⟩ := info_parts hx_infoU8
    obtain ⟨ist, hist, hy0, hy1, hy2⟩ := info_parts str_info
    have k2 : W3.cell? ⟨w.heap.size, 2, none⟩ = some (.slice bA bn bc) := by rw [World.cell?, hp3]; rfl
    have HRD := Lib.hid (HA.out.below hb3).hbr
    have hbn : bn ≤ 70000 := by have := HG.out.1; have := HA.out.hbr.1; omega
    have hnn : nn ≤ 100 := by have := HG.out.2.2.1; have := HA.out.hnr.1; omega
    have HP3 := Lib.hid hp3
    have HQ3 := Lib.hid hq3
    have HB3 := Lib.hid hb3
    have HS3 := Lib.hid hs3
    have HPQ := Lib.hid hpq
    clear hp3 hq3 hb3 hs3 hpq
    go_upto_region 5 with (at_builtin; refine wpList_append_rd rfl _ _ 23 rfl W3.heap.size 5 iu (.int .u8 0) 1 Tryd.underlying23 hiu hz0 hz1 hz2 rfl (.slice none 0 0) 0 [] rfl (World.ownsRow_nil _ _ _ _) _ .u8 bA bn bc a.bytes rfl HRD.out (by unfold maxLen; omega) (by omega) (Nat.le_refl _) ?_; intro v4 w4 ho hg; rw [List.nil_append, Nat.zero_add] at ho; obtain ⟨A4, c4, rfl, hc4, hr4⟩ := rd_own ho; have hlo4 := rd_own_lo ho; have hb4 : Below W3.heap.size W3 w4 := (Below.refl _ _).grown hg (Nat.le_refl _) (fun k e => by cases e); have HQ4 := Lib.hid ((hb4.block _ (Array.getElem?_eq_some_iff.1 HQ3.out).1).trans HQ3.out); have HP4 := Lib.hid ((hb4.block _ (Array.getElem?_eq_some_iff.1 HP3.out).1).trans HP3.out); have HB4 := Lib.hid (HB3.out.trans (hb4.mono HB3.out.size)); have HR4 := Lib.hid (⟨hr4, hc4, hlo4, hb4.size⟩ : _ ∧ _ ∧ RLo W3.heap.size A4 bn ∧ _); have m2 : w4.cell? ⟨q, 2, none⟩ = some (.slice bA bn bc) := (by rw [World.cell?, HQ4.out]; rfl); have z2 : w4.frozen? ⟨q, 2, none⟩ = false := (by rw [World.frozen?, HQ4.out]; simp); clear ho hg hb4 hr4 hc4 hlo4)
    have hq5 := heap_setCell_same w4 q 2 (.slice A4 bn c4) HQ4.out
    have hp5 := (setCell_kept w4 q 2 (.slice A4 bn c4) w.heap.size (by have := HPQ.out; omega)).trans HP4.out
    have hb5 := HB4.out.setCell (p := ⟨q, 2, none⟩) (Nat.le_of_lt HPQ.out) (.slice A4 bn c4)
    have hat5 : ActAt (w4.setCell ⟨q, 2, none⟩ (.slice A4 bn c4)) { a with names := [] } A4 bn c4 none 0 0 := by
      have h0 : ActAt w4 { a with names := [] } A4 bn c4 none 0 0 := ⟨HA.out.hnm, HR4.out.1, HA.out.hbb, HA.out.hbn, HR4.out.2.1, ⟨rfl, by simp, fun h => absurd h (by omega)⟩, Nat.zero_le _, HA.out.hm, HA.out.hf⟩
      refine h0.keep (M := W3.heap.size) HR4.out.2.2.1 (fun h => absurd h (by omega)) (by simp) (fun z hz _ => setCell_kept _ _ _ _ _ (by have := HS3.out; omega))
    have hs5 : W3.heap.size ≤ (w4.setCell ⟨q, 2, none⟩ (.slice A4 bn c4)).heap.size := by simpa using HR4.out.2.2.2
    generalize w4.setCell ⟨q, 2, none⟩ (.slice A4 bn c4) = W5 at hq5 hp5 hb5 hat5 hs5 ⊢
    have k3 : W5.cell? ⟨w.heap.size, 3, none⟩ = some (.slice nA nn nc) := by rw [World.cell?, hp5]; rfl
    have HNM := Lib.hid (HA.out.below hb5).hnr
    have HNN := Lib.hid (nm_news HNM.out)
    have HQ5 := Lib.hid hq5
    have HP5 := Lib.hid hp5
    have HB5 := Lib.hid hb5
    have HA5 := Lib.hid (And.intro hat5 HR4.out.2.2.1)
    have HS5 := Lib.hid hs5
    clear hq5 hp5 hb5 hat5 hs5 k2 m2 z2 HQ4 HP4 HB4 HR4 HRD HP3 HQ3
    go_upto_region 6 with (at_builtin; refine wpList_append_any rfl _ _ 24 rfl W5.heap.size 9 ist (.string .empty) 16 Tryd.underlying24 hist hy0 hy1 hy2 rfl (.slice none 0 0) 0 [] rfl (World.ownsRow_nil _ _ _ _) nA nn nc (strV a.names) rfl HNN.out.1 HNN.out.2.1 HNN.out.2.2 (by unfold maxLen; omega) (by omega) (Nat.le_refl _) ?_; intro v6 w6 ho hg; rw [List.nil_append, Nat.zero_add] at ho; obtain ⟨A6, c6, rfl, hc6, hr6, hlo6⟩ := nm_own ho HNM.out.2.1; have hb6 : Below W5.heap.size W5 w6 := (Below.refl _ _).grown hg (Nat.le_refl _) (fun k e => by cases e); have HQ6 := Lib.hid ((hb6.block _ (Array.getElem?_eq_some_iff.1 HQ5.out).1).trans HQ5.out); have HP6 := Lib.hid ((hb6.block _ (Array.getElem?_eq_some_iff.1 HP5.out).1).trans HP5.out); have HB6 := Lib.hid (HB5.out.trans (hb6.mono HB5.out.size)); have HA6 := Lib.hid (HA5.out.1.below hb6); have HR6 := Lib.hid (⟨hr6, hc6, hlo6.less HS5.out⟩ : _ ∧ _ ∧ RLo W3.heap.size A6 nn); have m3 : w6.cell? ⟨q, 3, none⟩ = some (.slice nA nn nc) := (by rw [World.cell?, HQ6.out]; rfl); have z3 : w6.frozen? ⟨q, 3, none⟩ = false := (by rw [World.frozen?, HQ6.out]; simp); clear ho hg hb6 hr6 hc6 hlo6)
    have htwo : Two w (w6.setCell ⟨q, 3, none⟩ (.slice A6 nn c6)) a bA bn bc nA nn nc A4 bn c4 A6 nn c6 w.heap.size q := by
      have hkp : ∀ z, W3.heap.size ≤ z → z < w6.heap.size → (w6.setCell ⟨q, 3, none⟩ (.slice A6 nn c6)).heap[z]? = w6.heap[z]? := fun z hz _ => setCell_kept _ _ _ _ _ (by have := HS3.out; omega)
      have hbb := HB6.out.setCell (p := ⟨q, 3, none⟩) (Nat.le_of_lt HPQ.out) (.slice A6 nn c6)
      have h1 := HA6.out.keep (W := w6.setCell ⟨q, 3, none⟩ (.slice A6 nn c6)) (M := W3.heap.size) HA5.out.2 (fun h => absurd h (by omega)) (by simp) hkp
      have h0 : ActAt w6 { a with bytes := [] } none 0 0 A6 nn c6 := ⟨HA.out.hnm, Rd.nil, by simp, Nat.zero_le _, Nat.le_refl _, HR6.out.1, HA.out.hnn, HA.out.hm, HA.out.hf⟩
      have h2 := h0.keep (W := w6.setCell ⟨q, 3, none⟩ (.slice A6 nn c6)) (M := W3.heap.size) (fun h => absurd h (by omega)) HR6.out.2.2 (by simp) hkp
      exact ⟨hbb, (setCell_kept _ _ _ _ _ (by have := HPQ.out; omega)).trans HP6.out, (heap_setCell_same w6 q 3 (.slice A6 nn c6) HQ6.out).trans rfl, HA.out.below hbb, ⟨HA.out.hnm, h1.hbr, HA.out.hbb, h1.hbn, h1.hbc, h2.hnr, h2.hnn, HA.out.hm, HA.out.hf⟩⟩
    generalize w6.setCell ⟨q, 3, none⟩ (.slice A6 nn c6) = W7 at htwo ⊢
    have HTW := Lib.hid htwo
    clear htwo k3 m3 z3 HQ6 HP6 HB6 HA6 HR6 HQ5 HP5 HB5 HA5 HS5 HNM HNN hz0 hz1 hz2 hy0 hy1 hy2 hiu hist HS3 HB3 HPQ
    have HK1 := Lib.hid (fun (V : World) (hV : Below W7.heap.size W7 V) => mayact_any V a A4 bn c4 A6 nn c6 (HTW.out.below hV).a2 HKW.out)
    have HK2 := Lib.hid (fun (V : World) (hV : Below W7.heap.size W7 V) => rmayact_any V a bA bn bc nA nn nc (HTW.out.below hV).a1)
    have HK3 := Lib.hid (fun (V : World) (hV : Below W7.heap.size W7 V) => rsame_same V a A4 bn c4 A6 nn c6 (HTW.out.below hV).a2 bA bn bc nA nn nc (HTW.out.below hV).a1)
    have HC := Lib.hid (fun (V : World) (hV : Below W7.heap.size W7 V) => And.intro (HTW.out.below hV).c1 (HTW.out.below hV).c2)
    have HKN2 := Lib.hid (fun (V : World) (hV : Below W7.heap.size W7 V) => HKN.out V (HTW.out.below hV).hb)
    have HBE := Lib.hid (fun (V : World) (hV : Below W7.heap.size W7 V) => (HTW.out.below hV).hb)
    have HBT := Lib.hid (fun (U V : World) (hU : Below W7.heap.size W7 U) (hV : Below U.heap.size U V) => hU.trans (hV.mono hU.size))
    obtain ⟨⟨p0, p1, p2, p3, p4, p5⟩, q0, q1, q2, q3, q4, q5⟩ := HC.out W7 (Below.refl _ _)
    cases hmay : a.may with
    | false =>
      have HTX := Lib.hid (acttext_no W7 a A4 bn c4 A6 nn c6 HTW.out.a2 HKW.out hmay)
      rw [hmay] at HK1 HK2
      unfold actC at *
      clear hmay
      go_upto_region 7 with (go_at_call 9; (with_reducible refine HTX.out.mono ?_); rintro e w8 ⟨rfl, hb⟩; have HB8 := Lib.hid hb; clear hb)
      clear p0 p1 p2 p3 p4 p5 q0 q1 q2 q3 q4 q5 HTX
      refine wp_region_inv' 11 rfl (fun L a' w' => ∃ y0 y1 y2 y3 y4 y5 y6 y7 y8 y9 y10 : Value, a' = { tmps := List.toArray ((.agg #[.int .i64 a.kind, .string (S a.name), .slice bA bn bc, .slice nA nn nc, .int .i64 a.mem, .int .i64 a.fuel]) :: (.pointer (some ⟨w.heap.size, 0, none⟩)) :: (.bool false) :: (.pointer (some ⟨q, 0, none⟩)) :: (.string ⟨#[]⟩) :: (.int .i64 2) :: (.agg #[.int .i64 a.kind, .string (S a.name), .slice bA bn bc, .slice nA nn nc, .int .i64 a.mem, .int .i64 a.fuel]) :: (.bool false) :: undef :: (.agg #[.int .i64 a.kind, .string (S a.name), .slice bA bn bc, .slice nA nn nc, .int .i64 a.mem, .int .i64 a.fuel]) :: (.pointer (some ⟨w.heap.size, 2, none⟩)) :: (.slice bA bn bc) :: (.slice A4 bn c4) :: (.pointer (some ⟨q, 2, none⟩)) :: (.pointer (some ⟨w.heap.size, 3, none⟩)) :: (.slice nA nn nc) :: (.slice A6 nn c6) :: (.pointer (some ⟨q, 3, none⟩)) :: (.tuple #[.string ⟨#[]⟩, .int .i64 2]) :: (.agg #[.int .i64 a.kind, .string (S a.name), .slice A4 bn c4, .slice A6 nn c6, .int .i64 a.mem, .int .i64 a.fuel]) :: (.tuple #[.string ⟨#[]⟩, .int .i64 2]) :: (.string ⟨#[]⟩) :: (.int .i64 2) :: y0 :: y1 :: y2 :: y3 :: y4 :: y5 :: y6 :: y7 :: y8 :: y9 :: y10 :: undef :: undef :: undef :: undef :: undef :: undef :: undef :: undef :: undef :: undef :: undef :: undef :: undef :: undef :: undef :: undef :: undef :: undef :: undef :: undef :: undef :: undef :: undef :: undef :: undef :: []), defers := [] } ∧ (L 0 = true → y0 = .agg #[.int .i64 a.kind, .string (S a.name), .slice A4 bn c4, .slice A6 nn c6, .int .i64 a.mem, .int .i64 a.fuel]) ∧ (L 1 = true → y1 = .bool false) ∧ (L 2 = true → y2 = .agg #[.int .i64 a.kind, .string (S a.name), .slice bA bn bc, .slice nA nn nc, .int .i64 a.mem, .int .i64 a.fuel]) ∧ (L 3 = true → y3 = .bool false) ∧ (L 4 = true → y4 = .bool false) ∧ (L 5 = true → y5 = .bool false) ∧ (L 6 = true → y6 = .agg #[.int .i64 a.kind, .string (S a.name), .slice A4 bn c4, .slice A6 nn c6, .int .i64 a.mem, .int .i64 a.fuel]) ∧ (L 7 = true → y7 = .agg #[.int .i64 a.kind, .string (S a.name), .slice bA bn bc, .slice nA nn nc, .int .i64 a.mem, .int .i64 a.fuel]) ∧ (L 8 = true → y8 = .bool true) ∧ (L 9 = true → y9 = .bool false) ∧ (L 10 = true → y10 = .bool false) ∧ (Below W7.heap.size W7 w')) (by kernel_rfl) (by kernel_rfl) ?h0 ?step ?fin
      case h0 => exact ⟨undef, undef, undef, undef, undef, undef, undef, undef, undef, undef, undef, rfl, (fun e => by simp at e), (fun e => by simp at e), (fun e => by simp at e), (fun e => by simp at e), (fun e => by simp at e), (fun e => by simp at e), (fun e => by simp at e), (fun e => by simp at e), (fun e => by simp at e), (fun e => by simp at e), (fun e => by simp at e), HBT.out _ _ HB8.out (Below.refl _ _).drew⟩
      case step =>
        rintro i hi L a' w' hLi hcl hdp ⟨y0, y1, y2, y3, y4, y5, y6, y7, y8, y9, y10, rfl, e0, e1, e2, e3, e4, e5, e6, e7, e8, e9, e10, hw0⟩
        have hi2 : i = 0 ∨ i = 1 ∨ i = 2 ∨ i = 3 ∨ i = 4 ∨ i = 5 ∨ i = 6 ∨ i = 7 ∨ i = 8 ∨ i = 9 ∨ i = 10 := by omega
        rcases hi2 with rfl | rfl | rfl | rfl | rfl | rfl | rfl | rfl | rfl | rfl | rfl
        · have HF0 := Lib.hid hw0
          have E1 := Lib.hid e1; have E2 := Lib.hid e2; have E3 := Lib.hid e3; have E4 := Lib.hid e4; have E5 := Lib.hid e5; have E6 := Lib.hid e6; have E7 := Lib.hid e7; have E8 := Lib.hid e8; have E9 := Lib.hid e9; have E10 := Lib.hid e10
          clear e0 e1 e2 e3 e4 e5 e6 e7 e8 e9 e10 hw0
          obtain ⟨⟨p0, p1, p2, p3, p4, p5⟩, q0, q1, q2, q3, q4, q5⟩ := HC.out _ HF0.out
          refine wpOp_step rfl (fun K hK => ?_)
          go_simp
          exact hK _ _ ⟨_, _, _, _, _, _, _, _, _, _, _, rfl, (fun _ => rfl), (fun h => E1.out (by simpa [upOn] using h)), (fun h => E2.out (by simpa [upOn] using h)), (fun h => E3.out (by simpa [upOn] using h)), (fun h => E4.out (by simpa [upOn] using h)), (fun h => E5.out (by simpa [upOn] using h)), (fun h => E6.out (by simpa [upOn] using h)), (fun h => E7.out (by simpa [upOn] using h)), (fun h => E8.out (by simpa [upOn] using h)), (fun h => E9.out (by simpa [upOn] using h)), (fun h => E10.out (by simpa [upOn] using h)), HF0.out⟩
        · have HF0 := Lib.hid hw0
          have l0 := (hdp 0 (by kernel_rfl))
          obtain rfl := e0 l0
          have E2 := Lib.hid e2; have E3 := Lib.hid e3; have E4 := Lib.hid e4; have E5 := Lib.hid e5; have E6 := Lib.hid e6; have E7 := Lib.hid e7; have E8 := Lib.hid e8; have E9 := Lib.hid e9; have E10 := Lib.hid e10
          clear e0 e1 e2 e3 e4 e5 e6 e7 e8 e9 e10 hw0
          refine wpOp_step rfl (fun K hK => ?_)
          go_simp
          refine (HK1.out _ HF0.out).mono ?_
          rintro e v1 ⟨rfl, hb⟩
          have HBV := HBT.out _ _ HF0.out hb
          exact hK _ _ ⟨_, _, _, _, _, _, _, _, _, _, _, rfl, (fun _ => rfl), (fun _ => rfl), (fun h => E2.out (by simpa [upOn] using h)), (fun h => E3.out (by simpa [upOn] using h)), (fun h => E4.out (by simpa [upOn] using h)), (fun h => E5.out (by simpa [upOn] using h)), (fun h => E6.out (by simpa [upOn] using h)), (fun h => E7.out (by simpa [upOn] using h)), (fun h => E8.out (by simpa [upOn] using h)), (fun h => E9.out (by simpa [upOn] using h)), (fun h => E10.out (by simpa [upOn] using h)), HBV⟩
        · have HF0 := Lib.hid hw0
          have E0 := Lib.hid e0; have E1 := Lib.hid e1; have E3 := Lib.hid e3; have E4 := Lib.hid e4; have E5 := Lib.hid e5; have E6 := Lib.hid e6; have E7 := Lib.hid e7; have E8 := Lib.hid e8; have E9 := Lib.hid e9; have E10 := Lib.hid e10
          clear e0 e1 e2 e3 e4 e5 e6 e7 e8 e9 e10 hw0
          obtain ⟨⟨p0, p1, p2, p3, p4, p5⟩, q0, q1, q2, q3, q4, q5⟩ := HC.out _ HF0.out
          refine wpOp_step rfl (fun K hK => ?_)
          go_simp
          exact hK _ _ ⟨_, _, _, _, _, _, _, _, _, _, _, rfl, (fun h => E0.out (by simpa [upOn] using h)), (fun h => E1.out (by simpa [upOn] using h)), (fun _ => rfl), (fun h => E3.out (by simpa [upOn] using h)), (fun h => E4.out (by simpa [upOn] using h)), (fun h => E5.out (by simpa [upOn] using h)), (fun h => E6.out (by simpa [upOn] using h)), (fun h => E7.out (by simpa [upOn] using h)), (fun h => E8.out (by simpa [upOn] using h)), (fun h => E9.out (by simpa [upOn] using h)), (fun h => E10.out (by simpa [upOn] using h)), HF0.out⟩
        · have HF0 := Lib.hid hw0
          have l2 := (hdp 2 (by kernel_rfl))
          obtain rfl := e2 l2
          have E0 := Lib.hid e0; have E1 := Lib.hid e1; have E4 := Lib.hid e4; have E5 := Lib.hid e5; have E6 := Lib.hid e6; have E7 := Lib.hid e7; have E8 := Lib.hid e8; have E9 := Lib.hid e9; have E10 := Lib.hid e10
          clear e0 e1 e2 e3 e4 e5 e6 e7 e8 e9 e10 hw0
          refine wpOp_step rfl (fun K hK => ?_)
          go_simp
          refine (HK2.out _ HF0.out).mono ?_
          rintro e v1 ⟨rfl, hb⟩
          have HBV := HBT.out _ _ HF0.out hb
          exact hK _ _ ⟨_, _, _, _, _, _, _, _, _, _, _, rfl, (fun h => E0.out (by simpa [upOn] using h)), (fun h => E1.out (by simpa [upOn] using h)), (fun _ => rfl), (fun _ => rfl), (fun h => E4.out (by simpa [upOn] using h)), (fun h => E5.out (by simpa [upOn] using h)), (fun h => E6.out (by simpa [upOn] using h)), (fun h => E7.out (by simpa [upOn] using h)), (fun h => E8.out (by simpa [upOn] using h)), (fun h => E9.out (by simpa [upOn] using h)), (fun h => E10.out (by simpa [upOn] using h)), HBV⟩
        · have HF0 := Lib.hid hw0
          have l1 := (hdp 1 (by kernel_rfl))
          have l3 := (hdp 3 (by kernel_rfl))
          obtain rfl := e1 l1
          obtain rfl := e3 l3
          have E0 := Lib.hid e0; have E2 := Lib.hid e2; have E5 := Lib.hid e5; have E6 := Lib.hid e6; have E7 := Lib.hid e7; have E8 := Lib.hid e8; have E9 := Lib.hid e9; have E10 := Lib.hid e10
          clear e0 e1 e2 e3 e4 e5 e6 e7 e8 e9 e10 hw0
          refine wpOp_step rfl (fun K hK => ?_)
          go_simp
          exact hK _ _ ⟨_, _, _, _, _, _, _, _, _, _, _, rfl, (fun h => E0.out (by simpa [upOn] using h)), (fun _ => rfl), (fun h => E2.out (by simpa [upOn] using h)), (fun _ => rfl), (fun _ => rfl), (fun h => E5.out (by simpa [upOn] using h)), (fun h => E6.out (by simpa [upOn] using h)), (fun h => E7.out (by simpa [upOn] using h)), (fun h => E8.out (by simpa [upOn] using h)), (fun h => E9.out (by simpa [upOn] using h)), (fun h => E10.out (by simpa [upOn] using h)), HF0.out⟩
        · have HF0 := Lib.hid hw0
          have l4 := (hdp 4 (by kernel_rfl))
          obtain rfl := e4 l4
          have E0 := Lib.hid e0; have E1 := Lib.hid e1; have E2 := Lib.hid e2; have E3 := Lib.hid e3; have E6 := Lib.hid e6; have E7 := Lib.hid e7; have E8 := Lib.hid e8; have E9 := Lib.hid e9; have E10 := Lib.hid e10
          clear e0 e1 e2 e3 e4 e5 e6 e7 e8 e9 e10 hw0
          refine wpOp_step rfl (fun K hK => ?_)
          go_simp
          exact hK _ _ ⟨_, _, _, _, _, _, _, _, _, _, _, rfl, (fun h => E0.out (by simpa [upOn] using h)), (fun h => E1.out (by simpa [upOn] using h)), (fun h => E2.out (by simpa [upOn] using h)), (fun h => E3.out (by simpa [upOn] using h)), (fun _ => rfl), (fun _ => rfl), (fun h => E6.out (by simpa [upOn] using h)), (fun h => E7.out (by simpa [upOn] using h)), (fun h => E8.out (by simpa [upOn] using h)), (fun h => E9.out (by simpa [upOn] using h)), (fun h => E10.out (by simpa [upOn] using h)), HF0.out⟩
        · have HF0 := Lib.hid hw0
          have l5 := (hdp 5 (by kernel_rfl))
          obtain rfl := e5 l5
          have E0 := Lib.hid e0; have E1 := Lib.hid e1; have E2 := Lib.hid e2; have E3 := Lib.hid e3; have E4 := Lib.hid e4; have E7 := Lib.hid e7; have E8 := Lib.hid e8; have E9 := Lib.hid e9; have E10 := Lib.hid e10
          clear e0 e1 e2 e3 e4 e5 e6 e7 e8 e9 e10 hw0
          obtain ⟨⟨p0, p1, p2, p3, p4, p5⟩, q0, q1, q2, q3, q4, q5⟩ := HC.out _ HF0.out
          refine wpOp_step rfl (fun K hK => ?_)
          go_simp
          exact hK _ _ ⟨_, _, _, _, _, _, _, _, _, _, _, rfl, (fun h => E0.out (by simpa [upOn] using h)), (fun h => E1.out (by simpa [upOn] using h)), (fun h => E2.out (by simpa [upOn] using h)), (fun h => E3.out (by simpa [upOn] using h)), (fun h => E4.out (by simpa [upOn] using h)), (fun _ => rfl), (fun _ => rfl), (fun h => E7.out (by simpa [upOn] using h)), (fun h => E8.out (by simpa [upOn] using h)), (fun h => E9.out (by simpa [upOn] using h)), (fun h => E10.out (by simpa [upOn] using h)), HF0.out⟩
        · have HF0 := Lib.hid hw0
          have l5 := (hdp 5 (by kernel_rfl))
          obtain rfl := e5 l5
          have E0 := Lib.hid e0; have E1 := Lib.hid e1; have E2 := Lib.hid e2; have E3 := Lib.hid e3; have E4 := Lib.hid e4; have E6 := Lib.hid e6; have E8 := Lib.hid e8; have E9 := Lib.hid e9; have E10 := Lib.hid e10
          clear e0 e1 e2 e3 e4 e5 e6 e7 e8 e9 e10 hw0
          obtain ⟨⟨p0, p1, p2, p3, p4, p5⟩, q0, q1, q2, q3, q4, q5⟩ := HC.out _ HF0.out
          refine wpOp_step rfl (fun K hK => ?_)
          go_simp
          exact hK _ _ ⟨_, _, _, _, _, _, _, _, _, _, _, rfl, (fun h => E0.out (by simpa [upOn] using h)), (fun h => E1.out (by simpa [upOn] using h)), (fun h => E2.out (by simpa [upOn] using h)), (fun h => E3.out (by simpa [upOn] using h)), (fun h => E4.out (by simpa [upOn] using h)), (fun _ => rfl), (fun h => E6.out (by simpa [upOn] using h)), (fun _ => rfl), (fun h => E8.out (by simpa [upOn] using h)), (fun h => E9.out (by simpa [upOn] using h)), (fun h => E10.out (by simpa [upOn] using h)), HF0.out⟩
        · have HF0 := Lib.hid hw0
          have l5 := (hdp 5 (by kernel_rfl))
          have l6 := (hdp 6 (by kernel_rfl))
          have l7 := (hdp 7 (by kernel_rfl))
          obtain rfl := e5 l5
          obtain rfl := e6 l6
          obtain rfl := e7 l7
          have E0 := Lib.hid e0; have E1 := Lib.hid e1; have E2 := Lib.hid e2; have E3 := Lib.hid e3; have E4 := Lib.hid e4; have E9 := Lib.hid e9; have E10 := Lib.hid e10
          clear e0 e1 e2 e3 e4 e5 e6 e7 e8 e9 e10 hw0
          refine wpOp_step rfl (fun K hK => ?_)
          go_simp
          refine (HK3.out _ HF0.out).mono ?_
          rintro e v1 ⟨rfl, hb⟩
          have HBV := HBT.out _ _ HF0.out hb
          exact hK _ _ ⟨_, _, _, _, _, _, _, _, _, _, _, rfl, (fun h => E0.out (by simpa [upOn] using h)), (fun h => E1.out (by simpa [upOn] using h)), (fun h => E2.out (by simpa [upOn] using h)), (fun h => E3.out (by simpa [upOn] using h)), (fun h => E4.out (by simpa [upOn] using h)), (fun _ => rfl), (fun _ => rfl), (fun _ => rfl), (fun _ => rfl), (fun h => E9.out (by simpa [upOn] using h)), (fun h => E10.out (by simpa [upOn] using h)), HBV⟩
        · have HF0 := Lib.hid hw0
          have l5 := (hdp 5 (by kernel_rfl))
          have l8 := (hdp 8 (by kernel_rfl))
          obtain rfl := e5 l5
          obtain rfl := e8 l8
          have E0 := Lib.hid e0; have E1 := Lib.hid e1; have E2 := Lib.hid e2; have E3 := Lib.hid e3; have E4 := Lib.hid e4; have E6 := Lib.hid e6; have E7 := Lib.hid e7; have E10 := Lib.hid e10
          clear e0 e1 e2 e3 e4 e5 e6 e7 e8 e9 e10 hw0
          refine wpOp_step rfl (fun K hK => ?_)
          go_simp
          exact hK _ _ ⟨_, _, _, _, _, _, _, _, _, _, _, rfl, (fun h => E0.out (by simpa [upOn] using h)), (fun h => E1.out (by simpa [upOn] using h)), (fun h => E2.out (by simpa [upOn] using h)), (fun h => E3.out (by simpa [upOn] using h)), (fun h => E4.out (by simpa [upOn] using h)), (fun _ => rfl), (fun h => E6.out (by simpa [upOn] using h)), (fun h => E7.out (by simpa [upOn] using h)), (fun _ => rfl), (fun _ => rfl), (fun h => E10.out (by simpa [upOn] using h)), HF0.out⟩
        · have HF0 := Lib.hid hw0
          have l5 := (hdp 5 (by kernel_rfl))
          have l9 := (hdp 9 (by kernel_rfl))
          obtain rfl := e5 l5
          obtain rfl := e9 l9
          have E0 := Lib.hid e0; have E1 := Lib.hid e1; have E2 := Lib.hid e2; have E3 := Lib.hid e3; have E4 := Lib.hid e4; have E6 := Lib.hid e6; have E7 := Lib.hid e7; have E8 := Lib.hid e8
          clear e0 e1 e2 e3 e4 e5 e6 e7 e8 e9 e10 hw0
          refine wpOp_step rfl (fun K hK => ?_)
          go_simp
          exact hK _ _ ⟨_, _, _, _, _, _, _, _, _, _, _, rfl, (fun h => E0.out (by simpa [upOn] using h)), (fun h => E1.out (by simpa [upOn] using h)), (fun h => E2.out (by simpa [upOn] using h)), (fun h => E3.out (by simpa [upOn] using h)), (fun h => E4.out (by simpa [upOn] using h)), (fun _ => rfl), (fun h => E6.out (by simpa [upOn] using h)), (fun h => E7.out (by simpa [upOn] using h)), (fun h => E8.out (by simpa [upOn] using h)), (fun _ => rfl), (fun _ => rfl), HF0.out⟩
      case fin =>
        rintro L a' w' hall ⟨y0, y1, y2, y3, y4, y5, y6, y7, y8, y9, y10, rfl, e0, e1, e2, e3, e4, e5, e6, e7, e8, e9, e10, hw0⟩
        obtain rfl := e0 (hall 0 (by omega))
        obtain rfl := e1 (hall 1 (by omega))
        obtain rfl := e2 (hall 2 (by omega))
        obtain rfl := e3 (hall 3 (by omega))
        obtain rfl := e4 (hall 4 (by omega))
        obtain rfl := e5 (hall 5 (by omega))
        obtain rfl := e6 (hall 6 (by omega))
        obtain rfl := e7 (hall 7 (by omega))
        obtain rfl := e8 (hall 8 (by omega))
        obtain rfl := e9 (hall 9 (by omega))
        obtain rfl := e10 (hall 10 (by omega))
        have HB9 := Lib.hid hw0
        clear hw0 hall
        obtain ⟨⟨p0, p1, p2, p3, p4, p5⟩, q0, q1, q2, q3, q4, q5⟩ := HC.out _ HB9.out
        go_wp2_with (first
          | (go_at_call 11; (with_reducible refine (HK2.out _ HB9.out).mono ?_); rintro e w10 ⟨rfl, hb⟩; have HB10 := Lib.hid (HBT.out _ _ HB9.out hb); clear hb; replace p0 := (HC.out _ HB10.out).1.1; replace p1 := (HC.out _ HB10.out).1.2.1; replace p2 := (HC.out _ HB10.out).1.2.2.1; replace p3 := (HC.out _ HB10.out).1.2.2.2.1; replace p4 := (HC.out _ HB10.out).1.2.2.2.2.1; replace p5 := (HC.out _ HB10.out).1.2.2.2.2.2)
            | (go_at_call 13; (with_reducible refine (num_any _ _).mono ?_); rintro e w' ⟨rfl, rfl⟩)
            | (go_at_call 8; (with_reducible refine (HKN2.out _ HB10.out).mono ?_); rintro e w12 ⟨rfl, hb⟩; have HB12 := Lib.hid (HBT.out _ _ HB10.out hb); clear hb))
        go_ret
        exact ⟨rfl, HBE.out _ HB12.out⟩
    | true =>
      have HTX := Lib.hid (acttext_yes W7 a A4 bn c4 A6 nn c6 HTW.out.a2 HKW.out hmay (HT.out.below HTW.out.hb).t (HT.out.below HTW.out.hb).s)
      have HK4 := Lib.hid (fun (V : World) (hV : Below W7.heap.size W7 V) => ractText_any V a bA bn bc nA nn nc (HTW.out.below hV).a1 hmay (HT.out.below (HTW.out.below hV).hb).t)
      rw [hmay] at HK1 HK2
      unfold actC at *
      clear hmay
      generalize S a.txt = tx at HTX HK4
      go_upto_region 7 with (go_at_call 9; (with_reducible refine HTX.out.mono ?_); rintro e w8 ⟨rfl, hb⟩; have HB8 := Lib.hid hb; clear hb)
      clear p0 p1 p2 p3 p4 p5 q0 q1 q2 q3 q4 q5 HTX
      refine wp_region_inv' 11 rfl (fun L a' w' => ∃ y0 y1 y2 y3 y4 y5 y6 y7 y8 y9 y10 : Value, a' = { tmps := List.toArray ((.agg #[.int .i64 a.kind, .string (S a.name), .slice bA bn bc, .slice nA nn nc, .int .i64 a.mem, .int .i64 a.fuel]) :: (.pointer (some ⟨w.heap.size, 0, none⟩)) :: (.bool false) :: (.pointer (some ⟨q, 0, none⟩)) :: (.string tx) :: (.int .i64 0) :: (.agg #[.int .i64 a.kind, .string (S a.name), .slice bA bn bc, .slice nA nn nc, .int .i64 a.mem, .int .i64 a.fuel]) :: (.bool false) :: undef :: (.agg #[.int .i64 a.kind, .string (S a.name), .slice bA bn bc, .slice nA nn nc, .int .i64 a.mem, .int .i64 a.fuel]) :: (.pointer (some ⟨w.heap.size, 2, none⟩)) :: (.slice bA bn bc) :: (.slice A4 bn c4) :: (.pointer (some ⟨q, 2, none⟩)) :: (.pointer (some ⟨w.heap.size, 3, none⟩)) :: (.slice nA nn nc) :: (.slice A6 nn c6) :: (.pointer (some ⟨q, 3, none⟩)) :: (.tuple #[.string tx, .int .i64 0]) :: (.agg #[.int .i64 a.kind, .string (S a.name), .slice A4 bn c4, .slice A6 nn c6, .int .i64 a.mem, .int .i64 a.fuel]) :: (.tuple #[.string tx, .int .i64 0]) :: (.string tx) :: (.int .i64 0) :: y0 :: y1 :: y2 :: y3 :: y4 :: y5 :: y6 :: y7 :: y8 :: y9 :: y10 :: undef :: undef :: undef :: undef :: undef :: undef :: undef :: undef :: undef :: undef :: undef :: undef :: undef :: undef :: undef :: undef :: undef :: undef :: undef :: undef :: undef :: undef :: undef :: undef :: undef :: []), defers := [] } ∧ (L 0 = true → y0 = .agg #[.int .i64 a.kind, .string (S a.name), .slice A4 bn c4, .slice A6 nn c6, .int .i64 a.mem, .int .i64 a.fuel]) ∧ (L 1 = true → y1 = .bool true) ∧ (L 2 = true → y2 = .agg #[.int .i64 a.kind, .string (S a.name), .slice bA bn bc, .slice nA nn nc, .int .i64 a.mem, .int .i64 a.fuel]) ∧ (L 3 = true → y3 = .bool true) ∧ (L 4 = true → y4 = .bool false) ∧ (L 5 = true → y5 = .bool false) ∧ (L 6 = true → y6 = .agg #[.int .i64 a.kind, .string (S a.name), .slice A4 bn c4, .slice A6 nn c6, .int .i64 a.mem, .int .i64 a.fuel]) ∧ (L 7 = true → y7 = .agg #[.int .i64 a.kind, .string (S a.name), .slice bA bn bc, .slice nA nn nc, .int .i64 a.mem, .int .i64 a.fuel]) ∧ (L 8 = true → y8 = .bool true) ∧ (L 9 = true → y9 = .bool false) ∧ (L 10 = true → y10 = .bool false) ∧ (Below W7.heap.size W7 w')) (by kernel_rfl) (by kernel_rfl) ?h0 ?step ?fin
      case h0 => exact ⟨undef, undef, undef, undef, undef, undef, undef, undef, undef, undef, undef, rfl, (fun e => by simp at e), (fun e => by simp at e), (fun e => by simp at e), (fun e => by simp at e), (fun e => by simp at e), (fun e => by simp at e), (fun e => by simp at e), (fun e => by simp at e), (fun e => by simp at e), (fun e => by simp at e), (fun e => by simp at e), HBT.out _ _ HB8.out (Below.refl _ _).drew⟩
      case step =>
        rintro i hi L a' w' hLi hcl hdp ⟨y0, y1, y2, y3, y4, y5, y6, y7, y8, y9, y10, rfl, e0, e1, e2, e3, e4, e5, e6, e7, e8, e9, e10, hw0⟩
        have hi2 : i = 0 ∨ i = 1 ∨ i = 2 ∨ i = 3 ∨ i = 4 ∨ i = 5 ∨ i = 6 ∨ i = 7 ∨ i = 8 ∨ i = 9 ∨ i = 10 := by omega
        rcases hi2 with rfl | rfl | rfl | rfl | rfl | rfl | rfl | rfl | rfl | rfl | rfl
        · have HF0 := Lib.hid hw0
          have E1 := Lib.hid e1; have E2 := Lib.hid e2; have E3 := Lib.hid e3; have E4 := Lib.hid e4; have E5 := Lib.hid e5; have E6 := Lib.hid e6; have E7 := Lib.hid e7; have E8 := Lib.hid e8; have E9 := Lib.hid e9; have E10 := Lib.hid e10
          clear e0 e1 e2 e3 e4 e5 e6 e7 e8 e9 e10 hw0
          obtain ⟨⟨p0, p1, p2, p3, p4, p5⟩, q0, q1, q2, q3, q4, q5⟩ := HC.out _ HF0.out
          refine wpOp_step rfl (fun K hK => ?_)
          go_simp
          exact hK _ _ ⟨_, _, _, _, _, _, _, _, _, _, _, rfl, (fun _ => rfl), (fun h => E1.out (by simpa [upOn] using h)), (fun h => E2.out (by simpa [upOn] using h)), (fun h => E3.out (by simpa [upOn] using h)), (fun h => E4.out (by simpa [upOn] using h)), (fun h => E5.out (by simpa [upOn] using h)), (fun h => E6.out (by simpa [upOn] using h)), (fun h => E7.out (by simpa [upOn] using h)), (fun h => E8.out (by simpa [upOn] using h)), (fun h => E9.out (by simpa [upOn] using h)), (fun h => E10.out (by simpa [upOn] using h)), HF0.out⟩
        · have HF0 := Lib.hid hw0
          have l0 := (hdp 0 (by kernel_rfl))
          obtain rfl := e0 l0
          have E2 := Lib.hid e2; have E3 := Lib.hid e3; have E4 := Lib.hid e4; have E5 := Lib.hid e5; have E6 := Lib.hid e6; have E7 := Lib.hid e7; have E8 := Lib.hid e8; have E9 := Lib.hid e9; have E10 := Lib.hid e10
          clear e0 e1 e2 e3 e4 e5 e6 e7 e8 e9 e10 hw0
          refine wpOp_step rfl (fun K hK => ?_)
          go_simp
          refine (HK1.out _ HF0.out).mono ?_
          rintro e v1 ⟨rfl, hb⟩
          have HBV := HBT.out _ _ HF0.out hb
          exact hK _ _ ⟨_, _, _, _, _, _, _, _, _, _, _, rfl, (fun _ => rfl), (fun _ => rfl), (fun h => E2.out (by simpa [upOn] using h)), (fun h => E3.out (by simpa [upOn] using h)), (fun h => E4.out (by simpa [upOn] using h)), (fun h => E5.out (by simpa [upOn] using h)), (fun h => E6.out (by simpa [upOn] using h)), (fun h => E7.out (by simpa [upOn] using h)), (fun h => E8.out (by simpa [upOn] using h)), (fun h => E9.out (by simpa [upOn] using h)), (fun h => E10.out (by simpa [upOn] using h)), HBV⟩
        · have HF0 := Lib.hid hw0
          have E0 := Lib.hid e0; have E1 := Lib.hid e1; have E3 := Lib.hid e3; have E4 := Lib.hid e4; have E5 := Lib.hid e5; have E6 := Lib.hid e6; have E7 := Lib.hid e7; have E8 := Lib.hid e8; have E9 := Lib.hid e9; have E10 := Lib.hid e10
          clear e0 e1 e2 e3 e4 e5 e6 e7 e8 e9 e10 hw0
          obtain ⟨⟨p0, p1, p2, p3, p4, p5⟩, q0, q1, q2, q3, q4, q5⟩ := HC.out _ HF0.out
          refine wpOp_step rfl (fun K hK => ?_)
          go_simp
          exact hK _ _ ⟨_, _, _, _, _, _, _, _, _, _, _, rfl, (fun h => E0.out (by simpa [upOn] using h)), (fun h => E1.out (by simpa [upOn] using h)), (fun _ => rfl), (fun h => E3.out (by simpa [upOn] using h)), (fun h => E4.out (by simpa [upOn] using h)), (fun h => E5.out (by simpa [upOn] using h)), (fun h => E6.out (by simpa [upOn] using h)), (fun h => E7.out (by simpa [upOn] using h)), (fun h => E8.out (by simpa [upOn] using h)), (fun h => E9.out (by simpa [upOn] using h)), (fun h => E10.out (by simpa [upOn] using h)), HF0.out⟩
        · have HF0 := Lib.hid hw0
          have l2 := (hdp 2 (by kernel_rfl))
          obtain rfl := e2 l2
          have E0 := Lib.hid e0; have E1 := Lib.hid e1; have E4 := Lib.hid e4; have E5 := Lib.hid e5; have E6 := Lib.hid e6; have E7 := Lib.hid e7; have E8 := Lib.hid e8; have E9 := Lib.hid e9; have E10 := Lib.hid e10
          clear e0 e1 e2 e3 e4 e5 e6 e7 e8 e9 e10 hw0
          refine wpOp_step rfl (fun K hK => ?_)
          go_simp
          refine (HK2.out _ HF0.out).mono ?_
          rintro e v1 ⟨rfl, hb⟩
          have HBV := HBT.out _ _ HF0.out hb
          exact hK _ _ ⟨_, _, _, _, _, _, _, _, _, _, _, rfl, (fun h => E0.out (by simpa [upOn] using h)), (fun h => E1.out (by simpa [upOn] using h)), (fun _ => rfl), (fun _ => rfl), (fun h => E4.out (by simpa [upOn] using h)), (fun h => E5.out (by simpa [upOn] using h)), (fun h => E6.out (by simpa [upOn] using h)), (fun h => E7.out (by simpa [upOn] using h)), (fun h => E8.out (by simpa [upOn] using h)), (fun h => E9.out (by simpa [upOn] using h)), (fun h => E10.out (by simpa [upOn] using h)), HBV⟩
        · have HF0 := Lib.hid hw0
          have l1 := (hdp 1 (by kernel_rfl))
          have l3 := (hdp 3 (by kernel_rfl))
          obtain rfl := e1 l1
          obtain rfl := e3 l3
          have E0 := Lib.hid e0; have E2 := Lib.hid e2; have E5 := Lib.hid e5; have E6 := Lib.hid e6; have E7 := Lib.hid e7; have E8 := Lib.hid e8; have E9 := Lib.hid e9; have E10 := Lib.hid e10
          clear e0 e1 e2 e3 e4 e5 e6 e7 e8 e9 e10 hw0
          refine wpOp_step rfl (fun K hK => ?_)
          go_simp
          exact hK _ _ ⟨_, _, _, _, _, _, _, _, _, _, _, rfl, (fun h => E0.out (by simpa [upOn] using h)), (fun _ => rfl), (fun h => E2.out (by simpa [upOn] using h)), (fun _ => rfl), (fun _ => rfl), (fun h => E5.out (by simpa [upOn] using h)), (fun h => E6.out (by simpa [upOn] using h)), (fun h => E7.out (by simpa [upOn] using h)), (fun h => E8.out (by simpa [upOn] using h)), (fun h => E9.out (by simpa [upOn] using h)), (fun h => E10.out (by simpa [upOn] using h)), HF0.out⟩
        · have HF0 := Lib.hid hw0
          have l4 := (hdp 4 (by kernel_rfl))
          obtain rfl := e4 l4
          have E0 := Lib.hid e0; have E1 := Lib.hid e1; have E2 := Lib.hid e2; have E3 := Lib.hid e3; have E6 := Lib.hid e6; have E7 := Lib.hid e7; have E8 := Lib.hid e8; have E9 := Lib.hid e9; have E10 := Lib.hid e10
          clear e0 e1 e2 e3 e4 e5 e6 e7 e8 e9 e10 hw0
          refine wpOp_step rfl (fun K hK => ?_)
          go_simp
          exact hK _ _ ⟨_, _, _, _, _, _, _, _, _, _, _, rfl, (fun h => E0.out (by simpa [upOn] using h)), (fun h => E1.out (by simpa [upOn] using h)), (fun h => E2.out (by simpa [upOn] using h)), (fun h => E3.out (by simpa [upOn] using h)), (fun _ => rfl), (fun _ => rfl), (fun h => E6.out (by simpa [upOn] using h)), (fun h => E7.out (by simpa [upOn] using h)), (fun h => E8.out (by simpa [upOn] using h)), (fun h => E9.out (by simpa [upOn] using h)), (fun h => E10.out (by simpa [upOn] using h)), HF0.out⟩
        · have HF0 := Lib.hid hw0
          have l5 := (hdp 5 (by kernel_rfl))
          obtain rfl := e5 l5
          have E0 := Lib.hid e0; have E1 := Lib.hid e1; have E2 := Lib.hid e2; have E3 := Lib.hid e3; have E4 := Lib.hid e4; have E7 := Lib.hid e7; have E8 := Lib.hid e8; have E9 := Lib.hid e9; have E10 := Lib.hid e10
          clear e0 e1 e2 e3 e4 e5 e6 e7 e8 e9 e10 hw0
          obtain ⟨⟨p0, p1, p2, p3, p4, p5⟩, q0, q1, q2, q3, q4, q5⟩ := HC.out _ HF0.out
          refine wpOp_step rfl (fun K hK => ?_)
          go_simp
          exact hK _ _ ⟨_, _, _, _, _, _, _, _, _, _, _, rfl, (fun h => E0.out (by simpa [upOn] using h)), (fun h => E1.out (by simpa [upOn] using h)), (fun h => E2.out (by simpa [upOn] using h)), (fun h => E3.out (by simpa [upOn] using h)), (fun h => E4.out (by simpa [upOn] using h)), (fun _ => rfl), (fun _ => rfl), (fun h => E7.out (by simpa [upOn] using h)), (fun h => E8.out (by simpa [upOn] using h)), (fun h => E9.out (by simpa [upOn] using h)), (fun h => E10.out (by simpa [upOn] using h)), HF0.out⟩
        · have HF0 := Lib.hid hw0
          have l5 := (hdp 5 (by kernel_rfl))
          obtain rfl := e5 l5
          have E0 := Lib.hid e0; have E1 := Lib.hid e1; have E2 := Lib.hid e2; have E3 := Lib.hid e3; have E4 := Lib.hid e4; have E6 := Lib.hid e6; have E8 := Lib.hid e8; have E9 := Lib.hid e9; have E10 := Lib.hid e10
          clear e0 e1 e2 e3 e4 e5 e6 e7 e8 e9 e10 hw0
          obtain ⟨⟨p0, p1, p2, p3, p4, p5⟩, q0, q1, q2, q3, q4, q5⟩ := HC.out _ HF0.out
          refine wpOp_step rfl (fun K hK => ?_)
          go_simp
          exact hK _ _ ⟨_, _, _, _, _, _, _, _, _, _, _, rfl, (fun h => E0.out (by simpa [upOn] using h)), (fun h => E1.out (by simpa [upOn] using h)), (fun h => E2.out (by simpa [upOn] using h)), (fun h => E3.out (by simpa [upOn] using h)), (fun h => E4.out (by simpa [upOn] using h)), (fun _ => rfl), (fun h => E6.out (by simpa [upOn] using h)), (fun _ => rfl), (fun h => E8.out (by simpa [upOn] using h)), (fun h => E9.out (by simpa [upOn] using h)), (fun h => E10.out (by simpa [upOn] using h)), HF0.out⟩
        · have HF0 := Lib.hid hw0
          have l5 := (hdp 5 (by kernel_rfl))
          have l6 := (hdp 6 (by kernel_rfl))
          have l7 := (hdp 7 (by kernel_rfl))
          obtain rfl := e5 l5
          obtain rfl := e6 l6
          obtain rfl := e7 l7
          have E0 := Lib.hid e0; have E1 := Lib.hid e1; have E2 := Lib.hid e2; have E3 := Lib.hid e3; have E4 := Lib.hid e4; have E9 := Lib.hid e9; have E10 := Lib.hid e10
          clear e0 e1 e2 e3 e4 e5 e6 e7 e8 e9 e10 hw0
          refine wpOp_step rfl (fun K hK => ?_)
          go_simp
          refine (HK3.out _ HF0.out).mono ?_
          rintro e v1 ⟨rfl, hb⟩
          have HBV := HBT.out _ _ HF0.out hb
          exact hK _ _ ⟨_, _, _, _, _, _, _, _, _, _, _, rfl, (fun h => E0.out (by simpa [upOn] using h)), (fun h => E1.out (by simpa [upOn] using h)), (fun h => E2.out (by simpa [upOn] using h)), (fun h => E3.out (by simpa [upOn] using h)), (fun h => E4.out (by simpa [upOn] using h)), (fun _ => rfl), (fun _ => rfl), (fun _ => rfl), (fun _ => rfl), (fun h => E9.out (by simpa [upOn] using h)), (fun h => E10.out (by simpa [upOn] using h)), HBV⟩
        · have HF0 := Lib.hid hw0
          have l5 := (hdp 5 (by kernel_rfl))
          have l8 := (hdp 8 (by kernel_rfl))
          obtain rfl := e5 l5
          obtain rfl := e8 l8
          have E0 := Lib.hid e0; have E1 := Lib.hid e1; have E2 := Lib.hid e2; have E3 := Lib.hid e3; have E4 := Lib.hid e4; have E6 := Lib.hid e6; have E7 := Lib.hid e7; have E10 := Lib.hid e10
          clear e0 e1 e2 e3 e4 e5 e6 e7 e8 e9 e10 hw0
          refine wpOp_step rfl (fun K hK => ?_)
          go_simp
          exact hK _ _ ⟨_, _, _, _, _, _, _, _, _, _, _, rfl, (fun h => E0.out (by simpa [upOn] using h)), (fun h => E1.out (by simpa [upOn] using h)), (fun h => E2.out (by simpa [upOn] using h)), (fun h => E3.out (by simpa [upOn] using h)), (fun h => E4.out (by simpa [upOn] using h)), (fun _ => rfl), (fun h => E6.out (by simpa [upOn] using h)), (fun h => E7.out (by simpa [upOn] using h)), (fun _ => rfl), (fun _ => rfl), (fun h => E10.out (by simpa [upOn] using h)), HF0.out⟩
        · have HF0 := Lib.hid hw0
          have l5 := (hdp 5 (by kernel_rfl))
          have l9 := (hdp 9 (by kernel_rfl))
          obtain rfl := e5 l5
          obtain rfl := e9 l9
          have E0 := Lib.hid e0; have E1 := Lib.hid e1; have E2 := Lib.hid e2; have E3 := Lib.hid e3; have E4 := Lib.hid e4; have E6 := Lib.hid e6; have E7 := Lib.hid e7; have E8 := Lib.hid e8
          clear e0 e1 e2 e3 e4 e5 e6 e7 e8 e9 e10 hw0
          refine wpOp_step rfl (fun K hK => ?_)
          go_simp
          exact hK _ _ ⟨_, _, _, _, _, _, _, _, _, _, _, rfl, (fun h => E0.out (by simpa [upOn] using h)), (fun h => E1.out (by simpa [upOn] using h)), (fun h => E2.out (by simpa [upOn] using h)), (fun h => E3.out (by simpa [upOn] using h)), (fun h => E4.out (by simpa [upOn] using h)), (fun _ => rfl), (fun h => E6.out (by simpa [upOn] using h)), (fun h => E7.out (by simpa [upOn] using h)), (fun h => E8.out (by simpa [upOn] using h)), (fun _ => rfl), (fun _ => rfl), HF0.out⟩
      case fin =>
        rintro L a' w' hall ⟨y0, y1, y2, y3, y4, y5, y6, y7, y8, y9, y10, rfl, e0, e1, e2, e3, e4, e5, e6, e7, e8, e9, e10, hw0⟩
        obtain rfl := e0 (hall 0 (by omega))
        obtain rfl := e1 (hall 1 (by omega))
        obtain rfl := e2 (hall 2 (by omega))
        obtain rfl := e3 (hall 3 (by omega))
        obtain rfl := e4 (hall 4 (by omega))
        obtain rfl := e5 (hall 5 (by omega))
        obtain rfl := e6 (hall 6 (by omega))
        obtain rfl := e7 (hall 7 (by omega))
        obtain rfl := e8 (hall 8 (by omega))
        obtain rfl := e9 (hall 9 (by omega))
        obtain rfl := e10 (hall 10 (by omega))
        have HB9 := Lib.hid hw0
        clear hw0 hall
        obtain ⟨⟨p0, p1, p2, p3, p4, p5⟩, q0, q1, q2, q3, q4, q5⟩ := HC.out _ HB9.out
        go_wp2_with (first
          | (go_at_call 11; (with_reducible refine (HK2.out _ HB9.out).mono ?_); rintro e w10 ⟨rfl, hb⟩; have HB10 := Lib.hid (HBT.out _ _ HB9.out hb); clear hb; replace p0 := (HC.out _ HB10.out).1.1; replace p1 := (HC.out _ HB10.out).1.2.1; replace p2 := (HC.out _ HB10.out).1.2.2.1; replace p3 := (HC.out _ HB10.out).1.2.2.2.1; replace p4 := (HC.out _ HB10.out).1.2.2.2.2.1; replace p5 := (HC.out _ HB10.out).1.2.2.2.2.2)
            | (go_at_call 13; (with_reducible refine (num_any _ _).mono ?_); rintro e w' ⟨rfl, rfl⟩)
            | (go_at_call 14; (with_reducible refine (HK4.out _ HB10.out).mono ?_); rintro e w11 ⟨rfl, hb⟩; have HB11 := Lib.hid (HBT.out _ _ HB10.out hb); clear hb)
            | (go_at_call 8; (with_reducible refine (HKN2.out _ HB11.out).mono ?_); rintro e w12 ⟨rfl, hb⟩; have HB12 := Lib.hid (HBT.out _ _ HB11.out hb); clear hb))
        go_ret
        exact ⟨rfl, HBE.out _ HB12.out⟩
theorem own : ownKnob Tryd.prog.godebug = none := by kernel_rfl
theorem laidOut : laidOutB Tryd.prog = true := by kernel_rfl
theorem gTab2 : Tryd.prog.globalNamed "internal/strconv.uint64pow10" = some 3 := by kernel_rfl
theorem gTab7 : Tryd.prog.globalNamed "strings.asciiSpace" = some 0 := by kernel_rfl
set_option maxRecDepth 1000000 in
theorem tables {W : World} (h0 : laidMetH Tryd.prog Rows.scriptActsRow.laid W) (hsh : W.ShapedOpen Tryd.prog) : Tb W := by
  rw [MakeChecks.laidMetH_plain _ _ _ (by kernel_rfl)] at h0
  have h : laidMet Tryd.prog Rows.scriptActsRow.laid W := h0
  exact ⟨Lib.tabIs_of_head (rest := _) gTab2 (by kernel_rfl) Tryd.underlying140 Tryd.underlying114 (by kernel_rfl) (by kernel_rfl) (laidMet.tail (laidMet.tail h)), Lib.tabIs_of_head (rest := _) gTab7 (by kernel_rfl) Tryd.underlying101 Tryd.underlying5 (by kernel_rfl) (by kernel_rfl) (laidMet.tail (laidMet.tail (laidMet.tail (laidMet.tail (laidMet.tail (laidMet.tail (laidMet.tail h))))))), mx_of hsh, ⟨errS_of (laidMet.tail (laidMet.tail (laidMet.tail (laidMet.tail (laidMet.tail h))))), errR_of (laidMet.tail (laidMet.tail (laidMet.tail (laidMet.tail h))))⟩⟩
set_option maxRecDepth 1000000 in
theorem contract (H : Type) (enc : TypeId × Value → H) (W : World) (base : Nat) (args : Array Value) (ds gs : List (DataW H)) (before : List MemPlace)
    (hval : ∀ (j : Nat) t v, Tryd.f3.params[j]? = some t → args[j]? = some v → Value.okWide Tryd.prog W .any base t v)
    (hW : DataW.Whole enc Tryd.prog Tryd.f3.params.toList Rows.scriptActsSpec.vars false W args.toList ds gs before) (hL : laidMetH Tryd.prog Rows.scriptActsRow.laid W) (hsh : W.ShapedOpen Tryd.prog) :
    Calls Tryd.prog 3 args W fun e W' => ∃ v, e = .returned v ∧ Rows.scriptActsSpec.post enc Tryd.prog Tryd.f3 false true false false W args v W' := by
  have hW' := hW
  obtain ⟨p, q, hA0, hV, rfl, hfz, hnd⟩ := hW
  have hA : DataW.TrodAll enc Tryd.prog W 0 (fun _ => true) true Tryd.f3.params.toList args.toList ds p := hA0
  rw [Tryd.params3] at hA hval
  obtain ⟨v0, vs0, d0, ds0, p0, q0, hargs, rfl, rfl, h0, r0⟩ := trodAll_cons hA
  obtain ⟨rfl, rfl, rfl⟩ := trodAll_nil r0
  obtain rfl : args = #[v0] := by cases args; simp_all
  obtain ⟨rfl, rfl⟩ := trodVars_none hV
  obtain ⟨o0, bA0, bn0, bc0, nA0, nn0, nc0, rfl, w0, u0⟩ := act_of (.inl (hval 0 26 v0 rfl rfl)) h0
  have kk0 := h0
  have lt0 : ∀ x ∈ p0, x.block < W.heap.size := by obtain ⟨m, hm⟩ := kk0; exact DataW.trod_lt m _ _ _ hm
  clear hA0
  have hT := tables hL hsh
  refine (walk o0 bA0 bn0 bc0 nA0 nn0 nc0 W w0 u0 hT).mono fun e W' ⟨he, bel⟩ => ?_
  subst he
  exact ⟨_, rfl, _, _, _, [], _, [], hW', trodAll_mk1 (shut_bool Tryd.underlying4 _), (trodAll_cons_mk (Below.trod laidOut (by kernel_rfl) (of_decide_eq_true (by kernel_rfl)) kk0 bel lt0) trodAll_mk0), rfl, bel.frame _, fun h => by cases h⟩
theorem witness_shaped {H : Type} {enc : TypeId × Value → H} {C : Checked} {os : Os} {f : FuncId} {fn : Func} {s : OpenSpec} {conds : List PathCond} {apart : Bool} {laid : List (String × DataW Unit)} (modest : Bool) (w0 : World) (args : Array Value) (hos : w0.os = os)
    (hsh : (w0.forCall (fun _ _ => 0) ⟨#[], args, []⟩).Shaped C.prog) (hok : Input.okWideB C.prog (w0.forCall (fun _ _ => 0) ⟨#[], args, []⟩) f ⟨#[], args, []⟩ = true)
    (hrow : s.preRow enc C.prog fn conds apart laid (w0.forCall (fun _ _ => 0) ⟨#[], args, []⟩).memory args) :
    ∃ (w : World) (tape : Tape) (i : Input), w.os = os ∧ (w.forCall tape i).Shaped C.prog ∧ i.vars = [] ∧ Input.okWide C.prog (w.forCall tape i) .any w.heap.size f i ∧
      s.preRow enc C.prog fn conds apart laid (w.forCall tape i).memory i.args ∧ ({ modest := modest } : Assume).holds C.prog (lone (Frame.enter C.prog f i.args .normal) [] (w.forCall tape i)) :=
  ⟨w0, fun _ _ => 0, ⟨#[], args, []⟩, hos, hsh, (Input.okWide_of_okWideB (base := 0) hok).1, (Input.okWide_of_okWideB hok).2, hrow, by
    simp only [Assume.holds]
    exact ⟨by simp, by simp, fun _ => Modest.zero, by simp, by simp⟩⟩
set_option maxRecDepth 1000000 in
theorem laid_met (os : Os) : laidMetH Tryd.prog Rows.scriptActsRow.laid ((World.laidAll Tryd.prog os Rows.scriptActsRow.laid).forCall (fun _ _ => 0) ⟨#[], #[.agg #[.int .i64 0, .string .empty, .slice none 0 0, .slice none 0 0, .int .i64 0, .int .i64 0]], []⟩).memory := by
  rw [MakeChecks.laidMetH_plain _ _ _ (by kernel_rfl)]
  exact laidMet_laidAll _ (by kernel_rfl) (by kernel_rfl)
set_option maxRecDepth 1000000 in
theorem reads (os : Os) {H : Type} (enc : TypeId × Value → H) : ∃ places, DataW.whole enc Tryd.prog ((World.laidAll Tryd.prog os Rows.scriptActsRow.laid).forCall (fun _ _ => 0) ⟨#[], #[.agg #[.int .i64 0, .string .empty, .slice none 0 0, .slice none 0 0, .int .i64 0, .int .i64 0]], []⟩).memory Tryd.f3.params.toList Rows.scriptActsSpec.vars false (#[.agg #[.int .i64 0, .string .empty, .slice none 0 0, .slice none 0 0, .int .i64 0, .int .i64 0]] : Array Value).toList 8 = some ([.agg [.lit (.int .i64 0), .lit (.string []), .nil, .nil, .lit (.int .i64 0), .lit (.int .i64 0)]], [], places) := ⟨[], by kernel_rfl⟩
set_option maxRecDepth 1000000 in
theorem lifted (os : Os) (started : os.Started) (H : Type) (enc : TypeId × Value → H) (F : Stop.Interp) :
    ReturnsInHanded {} Tryd.checked os 3 .any ((OpenSpec.ofChange Rows.scriptActsSpec).preRow enc Tryd.prog Tryd.f3 Rows.scriptActsRow.domain false Rows.scriptActsRow.laid) (((OpenSpec.ofChange Rows.scriptActsSpec).at F).post enc Tryd.prog Tryd.f3 false true false false) := by
  obtain ⟨places, hx⟩ := reads os enc
  refine returnsInHanded_of_row (C := Tryd.checked) (s := OpenSpec.ofChange Rows.scriptActsSpec) own started (by kernel_rfl) Tryd.func3
    (witness_shaped (enc := enc) (C := Tryd.checked) false (World.laidAll Tryd.prog os Rows.scriptActsRow.laid) #[.agg #[.int .i64 0, .string .empty, .slice none 0 0, .slice none 0 0, .int .i64 0, .int .i64 0]] (World.laidAll_os _ _ _) (World.shaped_of_ZipB (by kernel_rfl) (by kernel_rfl)) (by kernel_rfl)
      (OpenSpec.preRow_of_cond 8 hx (by kernel_rfl) (fun k hk => by cases hk) (by kernel_rfl) (laid_met os))) ?_
  intro W base args ds gs before hval hW _ _ _ hL hsh _
  exact contract H enc W base args ds gs before hval hW hL hsh
theorem said : Rows.ScriptActsSaid :=
  OpenClaim.holds_of_cond 3 Tryd.f3 rfl rfl rfl rfl rfl rfl rfl ⟨rfl, rfl, rfl, rfl, rfl⟩ rfl rfl rfl rfl rfl (by kernel_rfl) Tryd.func3 (by kernel_rfl)
    (of_decide_eq_true (by kernel_rfl)) (by unfold Func.isWrapper; first | (rw [if_pos (by decide +kernel)]; kernel_rfl) | (rw [if_neg (by decide +kernel)]; exact ⟨rfl, rfl⟩))
    (fun os started H enc _ F => by rw [OpenClaim.pre_eq_preRow]; exact lifted os started H enc F)
theorem plain (f : FuncId) (fn : Func) (hf : Tryd.pinned.checked.prog.funcNamed "selfsame/selfsamelaw25.ScriptActs" = some f) (hfn : Tryd.pinned.checked.prog.funcs[f]? = some fn) :
    true = Tryd.pinned.checked.prog.looks [] ∧ ∀ (j : Nat) t, fn.params[j]? = some t → Tryd.pinned.checked.prog.wantsStandIn t = false := by
  obtain rfl : f = 3 := Option.some.inj ((show Tryd.prog.funcNamed "selfsame/selfsamelaw25.ScriptActs" = some 3 by kernel_rfl).symm.trans hf) |>.symm
  obtain rfl : fn = Tryd.f3 := (Option.some.inj (Tryd.func3.symm.trans hfn)).symm
  refine ⟨by kernel_rfl, fun j t ht => ?_⟩
  rw [Tryd.params3] at ht
  have hm := Array.mem_of_getElem? ht
  simp only [List.mem_toArray, List.mem_cons, List.not_mem_nil, or_false] at hm
  rcases hm with rfl
  · exact (show Tryd.prog.wantsStandIn 26 = false by kernel_rfl)
theorem proved : Rows.ScriptActsCardSaid :=
  Claim7.holds_tied_plain_at .later [] _ _ _ _ said (fun _ h => by cases h) (by kernel_rfl) (fun _ h => by cases h) scriptActs_row_tie rfl ⟨rfl, rfl⟩ (by kernel_rfl) rfl plain (by kernel_rfl)
end Go.Proofs.YtlodoilihminaaaDoor.scriptActs
