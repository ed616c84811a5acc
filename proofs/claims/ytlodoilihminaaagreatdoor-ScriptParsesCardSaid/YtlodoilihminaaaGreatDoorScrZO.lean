/-
  ref25.Parse.
-/
import Derived.Test.YtlodoilihminaaaGreatDoorScrZN
import Derived.Test.YtlodoilihminaaaGreatDoorScrZP
namespace Go.Proofs.YtlodoilihminaaaGreatDoor
open Go.ChangeShapes Go.WideShapes Go.ChangeAt Go.RowKit
set_option linter.unusedVariables false
set_option linter.unusedSimpArgs false
set_option maxRecDepth 100000
theorem spl_cut2 (x : List UInt8) : spl x = if 32 ∈ x then c1 x :: spl (c2 x) else [x] := by
  induction x with
  | nil => rfl
  | cons c x ih =>
    by_cases h : c = 32
    · subst h
      rw [if_pos (by simp), spl, if_pos rfl]
      rfl
    · have e1 : c1 (c :: x) = c :: c1 x := by unfold c1; rw [List.takeWhile_cons_of_pos (by simp [h])]
      have e2 : c2 (c :: x) = c2 x := by unfold c2; rw [List.dropWhile_cons_of_pos (by simp [h])]
      have e3 : (32 ∈ c :: x) ↔ 32 ∈ x := by simp [Ne.symm h]
      rw [spl, if_neg h, ih, e1, e2]
      by_cases hm : 32 ∈ x
      · rw [if_pos hm, if_pos (e3.2 hm)]
      · rw [if_neg hm, if_neg (fun e => hm (e3.1 e))]
theorem spl_one {l b : List UInt8} (h : spl l = [b]) : b = l := by
  rw [spl_cut2] at h
  split at h
  · have := spl_ne (c2 l)
    simp only [List.cons.injEq] at h
    exact absurd h.2 this
  · simpa using h.symm
theorem numR_val {l : List UInt8} (h : 0 ≤ numR l) : Lib.itoa (numR l) = l := by
  unfold numR at h ⊢
  split
  · split
    · rename_i h2; exact h2
    · rename_i h1 h2; rw [if_pos h1, if_neg h2] at h; omega
  · rename_i h1; rw [if_neg h1] at h; omega
/-- the first line, by its words -/
theorem cap_words (x : List UInt8) : (lineOk 0 x = true ↔ (spl x).length = 2 ∧ nthL (spl x) 0 = wCap ∧ 0 ≤ numR (nthL (spl x) 1) ∧ numR (nthL (spl x) 1) ≤ 67108864) ∧ (lineOk 0 x = true → numR (nthL (spl x) 1) = numOf (c2 x)) := by
  have w7 : ∀ c ∈ wCap, c ≠ 32 := by decide
  have fwd : lineOk 0 x = true → ((spl x).length = 2 ∧ nthL (spl x) 0 = wCap ∧ 0 ≤ numR (nthL (spl x) 1) ∧ numR (nthL (spl x) 1) ≤ 67108864) ∧ numR (nthL (spl x) 1) = numOf (c2 x) := fun h => by
    obtain ⟨h1, h2⟩ := cap_line h
    generalize hv : numOf (c2 x) = v at *
    have hc : 0 ≤ v ∧ v ≤ 67108864 := by unfold capB at h1; simpa using h1
    have hs : spl x = [wCap, Lib.itoa v] := by rw [h2]; unfold cap0; rw [spl_app _ w7, spl_word _ (itoa_ne v)]
    rw [hs]
    have e1 : nthL [wCap, Lib.itoa v] 1 = Lib.itoa v := rfl
    have e0 : nthL [wCap, Lib.itoa v] 0 = wCap := rfl
    rw [e1, e0, numR_itoa v hc.1 (by omega)]
    exact ⟨⟨rfl, rfl, hc.1, hc.2⟩, rfl⟩
  refine ⟨⟨fun h => (fwd h).1, ?_⟩, fun h => (fwd h).2⟩
  rintro ⟨h1, h2, h3, h4⟩
  have hs := spl_cut2 x
  by_cases hm : 32 ∈ x
  · rw [if_pos hm] at hs
    rw [hs] at h1 h2 h3 h4
    rw [List.length_cons] at h1
    obtain ⟨b, hb⟩ : ∃ b, spl (c2 x) = [b] := by
      match hq : spl (c2 x), h1 with
      | [b], _ => exact ⟨b, rfl⟩
    have hb2 := spl_one hb
    rw [hb] at h3 h4
    have e1 : nthL [c1 x, b] 1 = b := rfl
    rw [e1] at h3 h4
    have h5 := numR_val h3
    have h6 : numOf b = numR b := by
      conv => lhs; rw [← h5]
      exact numOf_itoa (numR b) h3 (by omega)
    unfold lineOk
    rw [if_pos rfl, ← hb2, h6]
    have e0 : nthL (c1 x :: spl (c2 x)) 0 = c1 x := rfl
    rw [e0] at h2
    rw [h2]
    unfold capB
    simp
    omega
  · rw [if_neg hm] at hs
    rw [hs] at h1
    simp at h1
theorem goL_bad {x : List UInt8} {ls : List (List UInt8)} {i : Nat} {r : List UInt8} (h : lineOk i x = false) : goL i (x :: ls) r = some i := by
  unfold goL
  rw [if_neg (by rw [h]; decide)]
theorem goL_good {x : List UInt8} {ls : List (List UInt8)} {i : Nat} {r : List UInt8} (h : lineOk i x = true) : goL i (x :: ls) r = goL (i + 1) ls r := by
  conv => lhs; unfold goL
  rw [if_pos h]
theorem rdA_wf (s : List UInt8) : (Lit.int .i64 (rdA s).kind).wf = true := by
  unfold rdA
  split
  · exact pC_kind_wf s
  · decide
theorem not_box {W : World} {p : Nat} {k : Int} {v : Value} {T : TypeId} {fr : Nat × Nat} (hb : W.heap[p]? = some (.cells #[.int .i64 k, v] T fr)) (hv : ∀ s, v ≠ .string s) {x : Addr} {s : ByteArray} (hc : W.cell? x = some (.string s)) : x.block ≠ p := by
  rintro rfl
  obtain ⟨b, o, sp⟩ := x
  cases sp with
  | some k => simp [World.cell?, hb] at hc
  | none =>
    match o with
    | 0 => simp [World.cell?, hb] at hc
    | 1 => simp [World.cell?, hb] at hc; exact hv s hc
    | o + 2 => simp [World.cell?, hb] at hc
theorem nm_not {W : World} {p M : Nat} {k : Int} {v : Value} {T : TypeId} {fr : Nat × Nat} (hb : W.heap[p]? = some (.cells #[.int .i64 k, v] T fr)) (hv : ∀ s, v ≠ .string s) {A : Option Addr} {n : Nat} {ls : List (List UInt8)} (h : NmRow W M A n ls) : ∀ x, A = some x → 0 < n → x.block ≠ p := fun x e h0 => by
  obtain ⟨y, e2, hy, hc⟩ := h.2.2 h0
  rw [e] at e2
  cases e2
  have hl : 0 < ls.length := by rw [h.1]; exact h0
  have h1 := hc 0 _ (List.getElem?_eq_getElem hl)
  have := not_box hb hv h1
  rwa [block_add] at this
theorem rparse_fin {W2 : World} {r : Nat} {u0 u1 : Value} {k m : Int} (h : W2.heap[r]? = some (.cells #[u0, u1] 38 (0, 0))) (a : Act) (h2 : a.tmps[2]? = some (.pointer (some ⟨r, 0, none⟩))) (h3 : a.tmps[3]? = some (.int .i64 k)) (h4 : a.tmps[4]? = some (.int .i64 m)) (hd : a.defers = [])
    (R : Ending → World → Prop) (hR : R (.returned (.tuple #[.agg #[u0, u1], .int .i64 k, .int .i64 m])) W2) :
    bodyPost Tryz.prog Tryz.f18 R .ret a W2 := by
  obtain ⟨tm, ds⟩ := a
  simp only at h2 h3 h4 hd
  subst hd
  have q0 : W2.cell? ⟨r, 0, none⟩ = some u0 := by rw [World.cell?, h]; rfl
  have q1 : W2.cell? ⟨r, 1, none⟩ = some u1 := by rw [World.cell?, h]; rfl
  refine bodyPost_ret ?_ rfl hR
  simp [results, Tryz.f18, go_sem, h2, h3, h4, q0, q1]
/-- what lies there, between two lines -/
structure QS (w W : World) (p M : Nat) (ls : List (List UInt8)) (A : Option Addr) (n : Nat) (ws : List (List UInt8)) (B : Option Addr) (n8 : Nat) (v : Value) (l : List Ac) (xs : List Value) : Prop where
  hb : Below w.heap.size w W
  res : W.heap[w.heap.size]? = some (.cells #[.int .i64 0, .slice none 0 0] 38 (0, 0))
  box : W.heap[p]? = some (.cells #[.int .i64 0, v] 38 (0, 0))
  oa : OA W M v l xs
  lns : NmRow W M A n ls
  wds : NmRow W M B n8 ws
  h1 : w.heap.size < p
  h2 : p < M
  h3 : M ≤ W.heap.size
  lne : ∀ x, A = some x → 0 < n → x.block ≠ p
  wne : ∀ x, B = some x → 0 < n8 → x.block ≠ p
section
variable {w W V : World} {p M : Nat} {ls : List (List UInt8)} {A : Option Addr} {n : Nat} {ws : List (List UInt8)} {B : Option Addr} {n8 : Nat} {v : Value} {l : List Ac} {xs : List Value}
theorem QS.below (h : QS w W p M ls A n ws B n8 v l xs) (hb : Below W.heap.size W V) : QS w V p M ls A n ws B n8 v l xs := by
  have h1 := h.h1
  have h2 := h.h2
  have h3 := h.h3
  exact ⟨h.hb.trans (hb.mono h.hb.size), (hb.block _ (by omega)).trans h.res, (hb.block _ (by omega)).trans h.box, h.oa.below hb, h.lns.below (hb.mono h3), h.wds.below (hb.mono h3), h1, h2, Nat.le_trans h3 hb.size, h.lne, h.wne⟩
theorem QS.zero (h : QS w W p M ls A n ws B n8 v l xs) : W.cell? ⟨w.heap.size, 0, none⟩ = some (.int .i64 0) ∧ W.frozen? ⟨w.heap.size, 0, none⟩ = false ∧ W.cell? ⟨w.heap.size, 1, none⟩ = some (.slice none 0 0) ∧ W.frozen? ⟨w.heap.size, 1, none⟩ = false := by
  refine ⟨?_, ?_, ?_, ?_⟩
  · rw [World.cell?, h.res]; rfl
  · rw [World.frozen?, h.res]; simp
  · rw [World.cell?, h.res]; rfl
  · rw [World.frozen?, h.res]; simp
theorem QS.bx (h : QS w W p M ls A n ws B n8 v l xs) : W.cell? ⟨p, 0, none⟩ = some (.int .i64 0) ∧ W.frozen? ⟨p, 0, none⟩ = false ∧ W.cell? ⟨p, 1, none⟩ = some v ∧ W.frozen? ⟨p, 1, none⟩ = false := by
  refine ⟨?_, ?_, ?_, ?_⟩
  · rw [World.cell?, h.box]; rfl
  · rw [World.frozen?, h.box]; simp
  · rw [World.cell?, h.box]; rfl
  · rw [World.frozen?, h.box]; simp
theorem nm_word {W : World} {M : Nat} {A : Option Addr} {n : Nat} {ls : List (List UInt8)} (h : NmRow W M A n ls) {j : Nat} (hj : j < n) : ∃ x, A = some x ∧ W.cell? (x.add j) = some (.string (S (nthL ls j))) ∧ x.block < M := by
  obtain ⟨x, e, hx, hc⟩ := h.2.2 (by omega)
  have hl : j < ls.length := by rw [h.1]; exact hj
  refine ⟨x, e, ?_, hx⟩
  rw [hc j _ (List.getElem?_eq_getElem hl)]
  unfold nthL
  rw [List.getElem?_eq_getElem hl]
  rfl
/-- one act more -/
theorem QS.more (h : QS w W p M ls A n ws B n8 v l xs) {a : Ac} {bA : Option Addr} {bn bc : Nat} {nA : Option Addr} {nn nc : Nat} (ha : ActAt W a bA bn bc nA nn nc) (hr1 : RFar M v bA bn) (hr2 : RFar M v nA nn) (hk : (Lit.int .i64 a.kind).wf = true) {g cap : Nat}
    (ho : V.ownsRow M 27 6 (.slice (some ⟨g, 0, none⟩) (l.length + 1) cap) (l.length + 1) (xs ++ (actC a.kind a.name bA bn bc nA nn nc a.mem a.fuel).toList)) (hg : W.grownBy V v.ownBlock) (hv : v.ownBlock = some g ∨ g = W.heap.size) :
    V.cell? ⟨p, 1, none⟩ = some v ∧ V.frozen? ⟨p, 1, none⟩ = false ∧ QS w (V.setCell ⟨p, 1, none⟩ (.slice (some ⟨g, 0, none⟩) (l.length + 1) cap)) p M ls A n ws B n8 (.slice (some ⟨g, 0, none⟩) (l.length + 1) cap) (l ++ [a]) (xs ++ (actC a.kind a.name bA bn bc nA nn nc a.mem a.fuel).toList) := by
  have h1 := h.h1
  have h2 := h.h2
  have h3 := h.h3
  have kp : ∀ z, z < M → V.heap[z]? = W.heap[z]? := fun z hz => hg.block z (by omega) (fun e => by have := (h.oa.own.lt z e.symm).1; omega)
  have hbx := (kp p h2).trans h.box
  refine ⟨by rw [World.cell?, hbx]; rfl, by rw [World.frozen?, hbx]; simp, ?_⟩
  have hoa := h.oa.snoc ha hr1 hr2 hk ho hg hv
  have hset : ∀ z, z ≠ p → (V.setCell ⟨p, 1, none⟩ (.slice (some ⟨g, 0, none⟩) (l.length + 1) cap)).heap[z]? = V.heap[z]? := fun z hz => setCell_kept _ _ _ _ _ hz
  refine ⟨⟨?_, ?_, ?_, ?_, fun z hz => (hset z (by omega)).trans ((kp z (by omega)).trans (h.hb.block z hz))⟩, (hset _ (by omega)).trans ((kp _ (by omega)).trans h.res), (heap_setCell_same V p 1 _ hbx).trans rfl, hoa.keep (by simp) (fun z hz _ => hset z (by omega)), ?_, ?_, h1, h2, by have := hg.size; simp; omega, h.lne, h.wne⟩
  · exact hg.os.trans h.hb.os
  · exact hg.tape.trans h.hb.tape
  · exact hg.output.trans h.hb.output
  · have := hg.size; have := h.hb.size; simp; omega
  · refine ⟨h.lns.1, h.lns.2.1, fun h0 => ?_⟩
    obtain ⟨x, e, hx, hc⟩ := h.lns.2.2 h0
    refine ⟨x, e, hx, fun i y hy => ?_⟩
    rw [World.cell?_of_block (w := W) ((hset _ (by rw [block_add]; exact h.lne x e h0)).trans (kp _ (by rw [block_add]; exact hx)))]
    exact hc i y hy
  · refine ⟨h.wds.1, h.wds.2.1, fun h0 => ?_⟩
    obtain ⟨x, e, hx, hc⟩ := h.wds.2.2 h0
    refine ⟨x, e, hx, fun i y hy => ?_⟩
    rw [World.cell?_of_block (w := W) ((hset _ (by rw [block_add]; exact h.wne x e h0)).trans (kp _ (by rw [block_add]; exact hx)))]
    exact hc i y hy
end
set_option maxHeartbeats 8000000 in
theorem rparse_any (w : World) (t : List UInt8) (ht : t.length ≤ 100000) (hT : Tb w) :
    Calls Tryz.prog 18 #[.string (S t)] w fun e w' => ∃ A n cc, e = .returned (.tuple #[.agg (scC (parC t) A n cc), .int .i64 (parN t), .int .i64 (parX t)]) ∧ ScAt w' (parC t) (parL t) A n cc ∧ Below w.heap.size w w' := by
  have HT := Lib.hid hT
  have hsz := S_size t
  have hq0 := heap_alloc_new w (.cells #[.int .i64 0, .slice none 0 0] 38)
  have hb0 := sbelow1 w (.cells #[.int .i64 0, .slice none 0 0] 38)
  have hs0 : (w.alloc (.cells #[.int .i64 0, .slice none 0 0] 38)).heap.size = w.heap.size + 1 := by simp
  clear hT
  go_enter Tryz.func18, Tryz.ntmps18
  go_upto_region 1 with fail
  generalize w.alloc (.cells #[.int .i64 0, .slice none 0 0] 38) = W1 at hq0 hb0 hs0 ⊢
  have hq1 := heap_alloc_new W1 (.cells #[.int .i64 0, .slice none 0 0] 38)
  have hr1 := (Below.heap_alloc W1 (.cells #[.int .i64 0, .slice none 0 0] 38) _ (Array.getElem?_eq_some_iff.1 hq0).1).trans hq0
  have hb1 := hb0.alloc hb0.size (.cells #[.int .i64 0, .slice none 0 0] 38)
  have hs1 : (W1.alloc (.cells #[.int .i64 0, .slice none 0 0] 38)).heap.size = w.heap.size + 2 := by simp [hs0]
  rw [hs0] at hq1
  go_upto_region 2 with fail
  generalize W1.alloc (.cells #[.int .i64 0, .slice none 0 0] 38) = W2 at hq1 hr1 hb1 hs1 ⊢
  clear hq0 hb0 hs0
  have HR2 := Lib.hid hr1
  have HQ2 := Lib.hid hq1
  have HB2 := Lib.hid hb1
  have HS2 := Lib.hid hs1
  clear hq1 hr1 hb1 hs1
  have HLN := Lib.hid (rlines_any W2 t (by omega))
  go_upto_region 5 with (go_at_call 48; (with_reducible refine HLN.out.mono ?_); rintro e w3 ⟨A, n, c, rfl, hnm, hb⟩; have HB3 := Lib.hid hb; have HNM := Lib.hid hnm; clear hnm hb)
  obtain ⟨ls, hls⟩ : ∃ ls, ls = (lnF t).1 := ⟨_, rfl⟩
  obtain ⟨rs, hrs⟩ : ∃ rs, rs = (lnF t).2 := ⟨_, rfl⟩
  rw [← hls] at HNM
  rw [← hrs]
  have HGO : Hid (parE t = goL 0 ls rs ∧ parR t = goR 0 0 [] ls) := Lib.hid (by rw [hls, hrs]; exact ⟨rfl, rfl⟩)
  have HLL : Hid (ls.length ≤ 100000 ∧ ∀ x ∈ ls, x.length ≤ 100000) := Lib.hid (by
    have h1 := lnF_count t
    rw [hls]
    exact ⟨by omega, fun x hx => by have := lnF_mem t x hx; omega⟩)
  have hn := HNM.out.1
  clear hls hrs HLN
  have HZ : Hid (∀ V : World, Below W2.heap.size W2 V → V.heap[w.heap.size]? = some (.cells #[.int .i64 0, .slice none 0 0] 38 (0, 0)) ∧ V.heap[w.heap.size + 1]? = some (.cells #[.int .i64 0, .slice none 0 0] 38 (0, 0)) ∧ Below w.heap.size w V) := Lib.hid fun V hV =>
    ⟨(hV.block _ (by have := HS2.out; omega)).trans HR2.out, (hV.block _ (by have := HS2.out; omega)).trans HQ2.out, HB2.out.trans (hV.mono HB2.out.size)⟩
  have HC : Hid (∀ V : World, Below W2.heap.size W2 V → (V.cell? ⟨w.heap.size, 0, none⟩ = some (.int .i64 0) ∧ V.frozen? ⟨w.heap.size, 0, none⟩ = false ∧ V.cell? ⟨w.heap.size, 1, none⟩ = some (.slice none 0 0) ∧ V.frozen? ⟨w.heap.size, 1, none⟩ = false) ∧ V.cell? ⟨w.heap.size + 1, 0, none⟩ = some (.int .i64 0) ∧ V.cell? ⟨w.heap.size + 1, 1, none⟩ = some (.slice none 0 0)) := Lib.hid fun V hV => by
    obtain ⟨e1, e2, -⟩ := HZ.out V hV
    refine ⟨⟨?_, ?_, ?_, ?_⟩, ?_, ?_⟩
    · rw [World.cell?, e1]; rfl
    · rw [World.frozen?, e1]; simp
    · rw [World.cell?, e1]; rfl
    · rw [World.frozen?, e1]; simp
    · rw [World.cell?, e2]; rfl
    · rw [World.cell?, e2]; rfl
  by_cases hn0 : n = 0
  · subst hn0
    have hl0 : ls = [] := List.eq_nil_of_length_eq_zero hn
    have HE : Hid (parC t = 0 ∧ parL t = [] ∧ parN t = 0 ∧ parX t = 4) := Lib.hid (par_no (i := 0) (by rw [HGO.out.1, hl0]; unfold goL; rw [if_neg (by simp)]))
    obtain ⟨⟨z0, z1, z2, z3⟩, y0, y1⟩ := HC.out _ HB3.out
    clear hn hl0
    go_wp2_with fail
    refine rparse_fin ((heap_setCell_same _ _ 1 (.slice none 0 0) (heap_setCell_same w3 _ 0 (.int .i64 0) (HZ.out _ HB3.out).1)).trans rfl) _ rfl rfl rfl rfl _ ?_
    rw [HE.out.1, HE.out.2.1, HE.out.2.2.1, HE.out.2.2.2]
    exact ⟨none, 0, 0, rfl, zero_at _, ((HZ.out _ HB3.out).2.2.setCell (Nat.le_refl _) _).setCell (Nat.le_refl _) _⟩
  obtain ⟨x, rfl, hx0, hxM⟩ := nm_word HNM.out (j := 0) (by omega)
  obtain ⟨x0, lt, hlt⟩ : ∃ x0 lt, ls = x0 :: lt := by
    cases ls with
    | nil => exact absurd hn.symm hn0
    | cons x0 lt => exact ⟨x0, lt, rfl⟩
  have hx00 : nthL ls 0 = x0 := by rw [hlt]; rfl
  rw [hx00] at hx0
  replace hx0 : w3.cell? x = some (.string (S x0)) := by
    have e : x.add 0 = x := Addr.add_zero' x
    rwa [e] at hx0
  have hx0l : x0.length ≤ 100000 := HLL.out.2 x0 (by rw [hlt]; simp)
  have n0 : (0 : Int) < (n : Int) := by omega
  have HCU := Lib.hid (rcut_any w3 x0 (by omega))
  have hCW := cap_words x0
  have HXL := Lib.hid (⟨hx0l, hlt, hx00⟩ : _ ∧ _ ∧ _)
  have hne0 : ((n : Int) == 0) = false := by simpa using hn0
  clear hx00 hlt hx0l
  go_upto_region 8 with (go_at_call 29; (with_reducible refine HCU.out.mono ?_); rintro e w4 ⟨B, n8, c8, rfl, hn8, hc8, hwd, -, hb⟩; have HB4 := Lib.hid (HB3.out.trans (hb.mono HB3.out.size)); have HNM4 := Lib.hid (HNM.out.below hb); have HNM34 := Lib.hid hb; have HWD := Lib.hid hwd; have HN8 := Lib.hid hn8; clear hn8 hc8 hwd hb)
  have HBAD : Hid (¬ ((spl x0).length = 2 ∧ nthL (spl x0) 0 = wCap ∧ 0 ≤ numR (nthL (spl x0) 1) ∧ numR (nthL (spl x0) 1) ≤ 67108864) → parC t = 0 ∧ parL t = [] ∧ parN t = 0 ∧ parX t = 4) := Lib.hid fun h => par_no (i := 0) (by
    rw [HGO.out.1, HXL.out.2.1]
    refine goL_bad ?_
    cases hq : lineOk 0 x0 with
    | false => rfl
    | true => exact absurd (hCW.1.1 hq) h)
  have HCW := Lib.hid hCW
  clear hCW hx0
  by_cases h82 : n8 = 2
  rotate_left
  · have h82b : ((n8 : Int) == 2) = false := by simp; omega
    have h82c : ((n8 : Int) != 2) = true := by simp; omega
    have HE := Lib.hid (HBAD.out (fun h => h82 (by rw [HN8.out]; exact h.1)))
    obtain ⟨⟨z0, z1, z2, z3⟩, y0, y1⟩ := HC.out _ HB4.out
    clear h82 hn
    go_wp2_with fail
    refine rparse_fin ((heap_setCell_same _ _ 1 (.slice none 0 0) (heap_setCell_same w4 _ 0 (.int .i64 0) (HZ.out _ HB4.out).1)).trans rfl) _ rfl rfl rfl rfl _ ?_
    rw [HE.out.1, HE.out.2.1, HE.out.2.2.1, HE.out.2.2.2]
    exact ⟨none, 0, 0, rfl, zero_at _, ((HZ.out _ HB4.out).2.2.setCell (Nat.le_refl _) _).setCell (Nat.le_refl _) _⟩
  subst h82
  obtain ⟨y, rfl, hy0, hyM⟩ := nm_word HWD.out (j := 0) (by omega)
  obtain ⟨y', hye, hy1, -⟩ := nm_word HWD.out (j := 1) (by omega)
  cases hye
  replace hy0 : w4.cell? y = some (.string (S (nthL (spl x0) 0))) := by
    have e : y.add 0 = y := Addr.add_zero' y
    rwa [e] at hy0
  replace hy1 : w4.cell? ⟨y.block, y.off + 1, none⟩ = some (.string (S (nthL (spl x0) 1))) := hy1
  have hcd := S_ne (l := nthL (spl x0) 0) (m := wCap)
  have hcd3 : ((S (nthL (spl x0) 0)).toList == ([99, 97, 112, 97, 99, 105, 116, 121] : List UInt8)) = decide (nthL (spl x0) 0 = wCap) := by rw [← hcd]; rw [ByteArray.toList_eq (bs := S wCap)]; rfl
  clear hcd
  by_cases hw0 : nthL (spl x0) 0 = wCap
  rotate_left
  · rw [decide_eq_false hw0] at hcd3
    have HE := Lib.hid (HBAD.out (fun h => hw0 h.2.1))
    obtain ⟨⟨z0, z1, z2, z3⟩, y0, y1⟩ := HC.out _ HB4.out
    clear hw0 hn
    generalize S (nthL (spl x0) 0) = sw0 at *
    go_wp2_with fail
    refine rparse_fin ((heap_setCell_same _ _ 1 (.slice none 0 0) (heap_setCell_same w4 _ 0 (.int .i64 0) (HZ.out _ HB4.out).1)).trans rfl) _ rfl rfl rfl rfl _ ?_
    rw [HE.out.1, HE.out.2.1, HE.out.2.2.1, HE.out.2.2.2]
    exact ⟨none, 0, 0, rfl, zero_at _, ((HZ.out _ HB4.out).2.2.setCell (Nat.le_refl _) _).setCell (Nat.le_refl _) _⟩
  rw [decide_eq_true hw0] at hcd3
  have HW0 := Lib.hid hw0
  have hl1 : (nthL (spl x0) 1).length ≤ 1000000 := by have := nth_len x0 1; have := HXL.out.1; omega
  have HNU : Hid (∀ V : World, Below W2.heap.size W2 V → Calls Tryz.prog 32 #[.string (S (nthL (spl x0) 1))] V fun e v => e = .returned (.int .i64 (numR (nthL (spl x0) 1))) ∧ Below W2.heap.size W2 v ∧ Below V.heap.size V v) := Lib.hid fun V hV =>
    (rnumber_any V _ hl1 (HT.out.below (HZ.out V hV).2.2)).mono fun e v ⟨h1, h2⟩ => ⟨h1, hV.trans (h2.mono hV.size), h2⟩
  obtain ⟨N1, hN1⟩ : ∃ N1, N1 = numR (nthL (spl x0) 1) := ⟨_, rfl⟩
  rw [← hN1] at HNU HBAD HCW
  have HN1 := Lib.hid hN1
  clear hN1 hw0 hl1
  generalize S (nthL (spl x0) 0) = sw0 at *
  obtain ⟨sw1, hsw1⟩ : ∃ sw1, sw1 = S (nthL (spl x0) 1) := ⟨_, rfl⟩
  rw [← hsw1] at HNU hy1
  have HSW := Lib.hid hsw1
  clear hsw1 hn
  have HY1 : Hid (∀ V : World, Below w4.heap.size w4 V → V.cell? ⟨y.block, y.off + 1, none⟩ = some (.string sw1)) := Lib.hid fun V hV => (hV.cell (World.block_lt_of_cell? _ _ hy1)).trans hy1
  by_cases hneg : N1 < 0
  · have HE := Lib.hid (HBAD.out (fun h => by have := h.2.2.1; omega))
    go_wp2_with (go_at_call 32; (with_reducible refine (HNU.out _ HB4.out).mono ?_); rintro e w5 ⟨rfl, hb, -⟩; have HB5 := Lib.hid hb; obtain ⟨⟨z0, z1, z2, z3⟩, y0, y1⟩ := HC.out _ hb; clear hb)
    refine rparse_fin ((heap_setCell_same _ _ 1 (.slice none 0 0) (heap_setCell_same w5 _ 0 (.int .i64 0) (HZ.out _ HB5.out).1)).trans rfl) _ rfl rfl rfl rfl _ ?_
    rw [HE.out.1, HE.out.2.1, HE.out.2.2.1, HE.out.2.2.2]
    exact ⟨none, 0, 0, rfl, zero_at _, ((HZ.out _ HB5.out).2.2.setCell (Nat.le_refl _) _).setCell (Nat.le_refl _) _⟩
  by_cases hbig : 67108864 < N1
  · have HE := Lib.hid (HBAD.out (fun h => by have := h.2.2.2; omega))
    go_wp2_with (first
      | (go_at_call 32; (with_reducible refine (HNU.out _ HB4.out).mono ?_); rintro e w5 ⟨rfl, hb, hb2⟩; have HB5 := Lib.hid hb; have hy1b := HY1.out _ hb2; clear hb hb2)
      | (go_at_call 32; (with_reducible refine (HNU.out _ HB5.out).mono ?_); rintro e w6 ⟨rfl, hb, -⟩; have HB6 := Lib.hid hb; obtain ⟨⟨z0, z1, z2, z3⟩, y0, y1⟩ := HC.out _ hb; clear hb))
    refine rparse_fin ((heap_setCell_same _ _ 1 (.slice none 0 0) (heap_setCell_same w6 _ 0 (.int .i64 0) (HZ.out _ HB6.out).1)).trans rfl) _ rfl rfl rfl rfl _ ?_
    rw [HE.out.1, HE.out.2.1, HE.out.2.2.1, HE.out.2.2.2]
    exact ⟨none, 0, 0, rfl, zero_at _, ((HZ.out _ HB6.out).2.2.setCell (Nat.le_refl _) _).setCell (Nat.le_refl _) _⟩
  go_upto_region 10 with (first
      | (go_at_call 32; (with_reducible refine (HNU.out _ HB4.out).mono ?_); rintro e w5 ⟨rfl, hb, hb2⟩; have HB5 := Lib.hid hb; have HB45 := Lib.hid hb2; have hy1b := HY1.out _ hb2; clear hb hb2)
      | (go_at_call 32; (with_reducible refine (HNU.out _ HB5.out).mono ?_); rintro e w6 ⟨rfl, hb, hb2⟩; have HB6 := Lib.hid hb; have HB46 := Lib.hid (HB45.out.trans (hb2.mono HB45.out.size)); clear hb hb2))
  have HOK : Hid (lineOk 0 x0 = true ∧ N1 = numOf (c2 x0)) := Lib.hid (by
    have h := HCW.out.1.2 ⟨HN8.out.symm, HW0.out, by omega, by omega⟩
    exact ⟨h, HCW.out.2 h⟩)
  have hns : ∀ z : ByteArray, (.slice none 0 0 : Value) ≠ .string z := fun z h => by cases h
  have hqs : QS w w6 (w.heap.size + 1) w6.heap.size ls (some x) n (spl x0) (some y) 2 (.slice none 0 0) [] [] := by
    obtain ⟨e1, e2, e3⟩ := HZ.out _ HB6.out
    have h36 : w3.heap.size ≤ w4.heap.size := (Nat.le_trans (Nat.le_refl _) HNM34.out.size)
    have hl := (HNM4.out.below (HB46.out.mono h36)).more (Nat.le_trans h36 HB46.out.size)
    have hd := (HWD.out.below HB46.out).more HB46.out.size
    exact ⟨e3, e1, e2, OA.nil _ _, hl, hd, Nat.lt_succ_self _, by have := HS2.out; have := HB6.out.size; omega, Nat.le_refl _, nm_not e2 hns hl, nm_not e2 hns hd⟩
  have HQS := Lib.hid hqs
  have HPR : Hid (parE t = goL 1 (ls.drop 1) rs ∧ parR t = goR 1 N1 [] (ls.drop 1)) := Lib.hid (by
    rw [HGO.out.1, HGO.out.2, HXL.out.2.1]
    refine ⟨goL_good HOK.out.1, ?_⟩
    rw [HOK.out.2]
    rfl)
  have HNL := Lib.hid (show ls.length = n from HNM.out.1)
  have hN : 0 ≤ N1 ∧ N1 ≤ 67108864 := by omega
  have hn1 : 1 ≤ n := by omega
  have hnb : n ≤ 100000 := by rw [← HNL.out]; exact HLL.out.1
  have HNN := Lib.hid hN
  have HNV : Hid (∀ V : World, Tb V → Calls Tryz.prog 32 #[.string sw1] V fun e v => e = .returned (.int .i64 N1) ∧ Below V.heap.size V v) := Lib.hid fun V hV => by
    rw [HSW.out, HN1.out]
    exact rnumber_any V _ (by have := nth_len x0 1; have := HXL.out.1; omega) hV
  clear HNU HY1 hqs hy0 hy1 hy1b hcd3 hneg hbig hns HBAD HCW HC HZ HNM HNM4 HCU HB5 HB45 HB6 HB4 HB3 HB2 HQ2 HR2 HGO hN n0 hne0 hn0
  obtain ⟨M, hM⟩ : ∃ M, M = w6.heap.size := ⟨_, rfl⟩
  rw [← hM] at HQS
  clear hM
  go_wp2_with fail
  go_loopw [9] (fun iv wr => ∃ (i : Nat) (v : Value) (l : List Ac) (xs : List Value), 1 ≤ i ∧ i ≤ n ∧ l.length ≤ i ∧ iv = .int .i64 (i : Int) ∧ Hid (QS w wr (w.heap.size + 1) M ls (some x) n (spl x0) (some y) 2 v l xs) ∧ Hid (parE t = goL i (ls.drop i) rs ∧ parR t = goR i N1 l (ls.drop i))) (fun iv _ => n - (intOf iv).toNat)
  case atStart => exact ⟨1, _, [], [], Nat.le_refl _, hn1, Nat.zero_le _, rfl, HQS, HPR⟩
  case round =>
    obtain ⟨i, v, l, xs, hi1, hi, hll, rfl, HQ, HP⟩ := hrel
    clear HQS HPR
    by_cases hlt : i < n
    · obtain ⟨x', hxe, hxi, -⟩ := nm_word HQ.out.lns hlt
      cases hxe
      have hil : i < ls.length := by rw [HNL.out]; exact hlt
      obtain ⟨xi, hxid⟩ : ∃ xi, xi = nthL ls i := ⟨_, rfl⟩
      have hxg : xi = ls[i] := by rw [hxid]; unfold nthL; rw [List.getElem?_eq_getElem hil]; rfl
      rw [← hxid] at hxi
      have HP2 : Hid (parE t = goL i (xi :: ls.drop (i + 1)) rs ∧ parR t = goR i N1 l (xi :: ls.drop (i + 1))) := Lib.hid (by rw [hxg, ← List.drop_eq_getElem_cons hil]; exact HP.out)
      have hxl : xi.length ≤ 100000 := HLL.out.2 xi (by rw [hxg]; exact List.getElem_mem hil)
      have HLO : Hid (lineOk i xi = (readB xi && decide (i ≤ 4096))) := Lib.hid (by unfold lineOk; rw [if_neg (by omega)])
      have HAO := Lib.hid (ractOf_any wr xi (by omega) (HT.out.below HQ.out.hb))
      have HWF := Lib.hid (rdA_wf xi)
      obtain ⟨rb, hrb⟩ : ∃ rb, rb = readB xi := ⟨_, rfl⟩
      obtain ⟨ac, hac⟩ : ∃ ac, ac = rdA xi := ⟨_, rfl⟩
      rw [← hrb] at HAO HLO
      rw [← hac] at HAO HWF
      have HAC := Lib.hid hac
      unfold actC at HAO
      generalize S xi = si at *
      clear hxid hxg hxl hrb hac hil
      go_upto_region 14 with (go_at_call 9; (with_reducible refine HAO.out.mono ?_); rintro e w5 ⟨bA, bn, bc, nA, nn, nc, rfl, hat, hlo1, hlo2, hb⟩; have HB5 := Lib.hid hb; have HAT := Lib.hid hat; have HLO2 := Lib.hid (And.intro hlo1 hlo2); clear hat hlo1 hlo2 hb)
      have hq5 := heap_alloc_new w5 (.cells #[.int .i64 ac.kind, .string (S ac.name), .slice bA bn bc, .slice nA nn nc, .int .i64 ac.mem, .int .i64 ac.fuel] 27)
      have hq6 := HQ.out.below (HB5.out.alloc HB5.out.size (.cells #[.int .i64 ac.kind, .string (S ac.name), .slice bA bn bc, .slice nA nn nc, .int .i64 ac.mem, .int .i64 ac.fuel] 27))
      have hat6 := HAT.out.below (sbelow1 w5 (.cells #[.int .i64 ac.kind, .string (S ac.name), .slice bA bn bc, .slice nA nn nc, .int .i64 ac.mem, .int .i64 ac.fuel] 27))
      generalize w5.alloc (.cells #[.int .i64 ac.kind, .string (S ac.name), .slice bA bn bc, .slice nA nn nc, .int .i64 ac.mem, .int .i64 ac.fuel] 27) = W6 at hq5 hq6 hat6 ⊢
      have HQ6 := Lib.hid hq6
      have HAT6 := Lib.hid hat6
      have k0 : W6.cell? ⟨w5.heap.size, 0, none⟩ = some (.int .i64 ac.kind) := by rw [World.cell?, hq5]; rfl
      have k1 : W6.cell? ⟨w5.heap.size, 1, none⟩ = some (.string (S ac.name)) := by rw [World.cell?, hq5]; rfl
      have k2 : W6.cell? ⟨w5.heap.size, 2, none⟩ = some (.slice bA bn bc) := by rw [World.cell?, hq5]; rfl
      have k3 : W6.cell? ⟨w5.heap.size, 3, none⟩ = some (.slice nA nn nc) := by rw [World.cell?, hq5]; rfl
      have k4 : W6.cell? ⟨w5.heap.size, 4, none⟩ = some (.int .i64 ac.mem) := by rw [World.cell?, hq5]; rfl
      have k5 : W6.cell? ⟨w5.heap.size, 5, none⟩ = some (.int .i64 ac.fuel) := by rw [World.cell?, hq5]; rfl
      obtain ⟨z0, z1, z2, z3⟩ := HQ6.out.zero
      obtain ⟨b0, g0, b1, g1⟩ := HQ6.out.bx
      clear hq5 hq6 hat6 hxi HAO
      cases rb with
      | false =>
        have HE := Lib.hid (par_no (i := i) (show parE t = some i by rw [HP2.out.1]; exact goL_bad (by rw [HLO.out]; rfl)))
        clear hn1 hnb
        go_wp2_with fail
        refine rparse_fin ((heap_setCell_same _ _ 1 (.slice none 0 0) (heap_setCell_same W6 _ 0 (.int .i64 0) HQ6.out.res)).trans rfl) _ rfl rfl rfl rfl _ ?_
        rw [HE.out.1, HE.out.2.1, HE.out.2.2.1, HE.out.2.2.2]
        exact ⟨none, 0, 0, rfl, zero_at _, (HQ6.out.hb.setCell (Nat.le_refl _) _).setCell (Nat.le_refl _) _⟩
      | true =>
        by_cases h4 : 4096 < i
        · have HE := Lib.hid (par_no (i := i) (show parE t = some i by rw [HP2.out.1]; exact goL_bad (by rw [HLO.out, decide_eq_false (by omega)]; rfl)))
          have h4b : (4096 : Int) < (i : Int) := by omega
          clear hn1 hnb h4
          go_wp2_with fail
          refine rparse_fin ((heap_setCell_same _ _ 1 (.slice none 0 0) (heap_setCell_same W6 _ 0 (.int .i64 0) HQ6.out.res)).trans rfl) _ rfl rfl rfl rfl _ ?_
          rw [HE.out.1, HE.out.2.1, HE.out.2.2.1, HE.out.2.2.2]
          exact ⟨none, 0, 0, rfl, zero_at _, (HQ6.out.hb.setCell (Nat.le_refl _) _).setCell (Nat.le_refl _) _⟩
        · have h4b : ¬ (4096 : Int) < (i : Int) := by omega
          have HOKI : Hid (lineOk i xi = true) := Lib.hid (by rw [HLO.out, decide_eq_true (by omega)]; rfl)
          obtain ⟨ia, hia, hy0, hy1, hy2⟩ := inf_parts act_info
          have hMr : M ≤ wr.heap.size := HQ.out.h3
          have rf : ∀ (A' : Option Addr) (n' : Nat), RLo wr.heap.size A' n' → RFar M v A' n' := fun A' n' h h0 => by
            obtain ⟨z, e, hz⟩ := h h0
            exact ⟨z, e, by omega, fun e2 => by have := (HQ.out.oa.own.lt z.block e2).2; omega⟩
          have HRF := Lib.hid (And.intro (rf bA bn HLO2.out.1) (rf nA nn HLO2.out.2))
          have d1 := HQ6.out.oa.own.alloc (.cells #[.int .i64 ac.kind, .string (S ac.name), .slice bA bn bc, .slice nA nn nc, .int .i64 ac.mem, .int .i64 ac.fuel] 27)
          have d2 : ∀ u ∈ (#[.int .i64 ac.kind, .string (S ac.name), .slice bA bn bc, .slice nA nn nc, .int .i64 ac.mem, .int .i64 ac.fuel] : Array Value).toList, u.oneCell' = true := ac1 ac bA bn bc nA nn nc
          have d3 := World.news_of_block (heap_alloc_new W6 (.cells #[.int .i64 ac.kind, .string (S ac.name), .slice bA bn bc, .slice nA nn nc, .int .i64 ac.mem, .int .i64 ac.fuel] 27))
          have d4 : M ≤ (W6.alloc (.cells #[.int .i64 ac.kind, .string (S ac.name), .slice bA bn bc, .slice nA nn nc, .int .i64 ac.mem, .int .i64 ac.fuel] 27)).heap.size := Nat.le_trans HQ6.out.h3 (by simp)
          have D := Lib.hid (⟨d1, d2, d3, d4⟩ : _ ∧ _ ∧ _ ∧ _)
          have HLL2 : Hid (l.length ≤ 100000) := Lib.hid (by omega)
          clear d1 d2 d3 d4 rf hMr h4
          go_wp2_with (at_builtin; refine wpList_append_lies _ rfl _ _ 36 rfl M 27 ia _ 6 88 Tryz.underlying36 hia hy0 hy1 hy2 rfl (by omega) _ l.length xs rfl D.out.1 ⟨W6.heap.size, 0, none⟩ 1 1 _ rfl rfl D.out.2.2.1 D.out.2.1 (by omega) (by have := HLL2.out; unfold maxLen; omega) (by have := HLL2.out; omega) D.out.2.2.2 _ rfl ?_; intro g8 c8 w8 ho hg hat hlt8; obtain ⟨b1', f1', hq8⟩ := (HQ6.out.below (sbelow1 W6 (.cells #[.int .i64 ac.kind, .string (S ac.name), .slice bA bn bc, .slice nA nn nc, .int .i64 ac.mem, .int .i64 ac.fuel] 27))).more (HAT6.out.below (sbelow1 W6 (.cells #[.int .i64 ac.kind, .string (S ac.name), .slice bA bn bc, .slice nA nn nc, .int .i64 ac.mem, .int .i64 ac.fuel] 27))) HRF.out.1 HRF.out.2 HWF.out ho hg hat; have HQ8 := Lib.hid hq8; clear ho hg hat hlt8 hq8)
          refine ⟨⟨i + 1, _, l ++ [ac], _, by omega, by omega, by rw [List.length_append, List.length_singleton]; omega, by go_num, HQ8, Lib.hid ?_⟩, by simp [intOf]; omega⟩
          rw [HP2.out.1, HP2.out.2, goL_good HOKI.out]
          refine ⟨rfl, ?_⟩
          rw [goR, show tkC i N1 xi = N1 by unfold tkC; rw [if_neg (by omega)], show tkL i l xi = l ++ [ac] by unfold tkL; rw [if_neg (by omega), if_pos HOKI.out, HAC.out]]
    · have hin : i = n := by omega
      subst hin
      have hdn : ls.drop i = [] := List.drop_of_length_le (by rw [HNL.out]; omega)
      have hp := HP.out
      rw [hdn] at hp
      have HP3 := Lib.hid hp
      have hre : ((S rs).toList == ([] : List UInt8)) = decide (rs = []) := by
        rw [ByteArray.toList_eq]
        show (rs == []) = _
        by_cases h : rs = [] <;> simp [h]
      obtain ⟨z0, z1, z2, z3⟩ := HQ.out.zero
      obtain ⟨b0, g0, b1, g1⟩ := HQ.out.bx
      by_cases hr : rs = []
      rotate_left
      · rw [decide_eq_false hr] at hre
        have HE := Lib.hid (par_no (i := i) (show parE t = some i by rw [HP3.out.1]; unfold goL; rw [if_neg (fun e => hr e.1)]))
        clear hr hdn hp hn1 hnb hlt hi
        go_wp2_with fail
        refine rparse_fin ((heap_setCell_same _ _ 1 (.slice none 0 0) (heap_setCell_same wr _ 0 (.int .i64 0) HQ.out.res)).trans rfl) _ rfl rfl rfl rfl _ ?_
        rw [HE.out.1, HE.out.2.1, HE.out.2.2.1, HE.out.2.2.2]
        exact ⟨none, 0, 0, rfl, zero_at _, (HQ.out.hb.setCell (Nat.le_refl _) _).setCell (Nat.le_refl _) _⟩
      · rw [decide_eq_true hr] at hre
        have hpe : parE t = none := by rw [HP3.out.1]; unfold goL; rw [if_pos ⟨hr, by omega⟩]
        have HE : Hid (parC t = N1 ∧ parL t = l ∧ parN t = 0 ∧ parX t = 0) := Lib.hid (by
          obtain ⟨p1, p2, p3, p4⟩ := par_ok hpe
          have hg : parR t = (N1, l) := HP3.out.2
          rw [hg] at p1 p2
          exact ⟨p1, p2, p3, p4⟩)
        obtain ⟨y', hye, hyc, -⟩ := nm_word HQ.out.wds (j := 1) (by omega)
        cases hye
        replace hyc : wr.cell? ⟨y.block, y.off + 1, none⟩ = some (.string sw1) := by rw [HSW.out]; exact hyc
        have HNV2 := Lib.hid (HNV.out wr (HT.out.below HQ.out.hb))
        obtain ⟨A9, c9, rfl, hcc, hcm, -, -⟩ := HQ.out.oa.row
        have HCC := Lib.hid (And.intro hcc hcm)
        clear hr hdn hp hn1 hnb hlt hi hpe hcc hcm
        go_upto_region 20 with (go_at_call 32; (with_reducible refine HNV2.out.mono ?_); rintro e w7 ⟨rfl, hb⟩; have HQ7 := Lib.hid (HQ.out.below hb); clear z0 z1 z2 z3 b0 g0 b1 g1; obtain ⟨b0, g0, b1, g1⟩ := HQ7.out.bx; clear hb)
        have hbx8 := (heap_setCell_same w7 (w.heap.size + 1) 0 (.int .i64 N1) HQ7.out.box).trans rfl
        have hrs8 := (setCell_kept w7 (w.heap.size + 1) 0 (.int .i64 N1) w.heap.size (by omega)).trans HQ7.out.res
        have hb8 := HQ7.out.hb.setCell (p := ⟨w.heap.size + 1, 0, none⟩) (Nat.le_succ _) (.int .i64 N1)
        have hoa8 : OA (w7.setCell ⟨w.heap.size + 1, 0, none⟩ (.int .i64 N1)) M (.slice A9 l.length c9) l xs := HQ7.out.oa.keep (by simp) fun z hz _ => setCell_kept _ _ _ _ _ (by have := HQ7.out.h2; omega)
        generalize w7.setCell ⟨w.heap.size + 1, 0, none⟩ (.int .i64 N1) = W8 at hbx8 hrs8 hb8 hoa8 ⊢
        have q0 : W8.cell? ⟨w.heap.size + 1, 0, none⟩ = some (.int .i64 N1) := by rw [World.cell?, hbx8]; rfl
        have q1 : W8.cell? ⟨w.heap.size + 1, 1, none⟩ = some (.slice A9 l.length c9) := by rw [World.cell?, hbx8]; rfl
        have z0 : W8.cell? ⟨w.heap.size, 0, none⟩ = some (.int .i64 0) := by rw [World.cell?, hrs8]; rfl
        have z1 : W8.frozen? ⟨w.heap.size, 0, none⟩ = false := by rw [World.frozen?, hrs8]; simp
        have z2 : W8.cell? ⟨w.heap.size, 1, none⟩ = some (.slice none 0 0) := by rw [World.cell?, hrs8]; rfl
        have z3 : W8.frozen? ⟨w.heap.size, 1, none⟩ = false := by rw [World.frozen?, hrs8]; simp
        have H8 := Lib.hid (⟨hrs8, hb8, hoa8⟩ : _ ∧ _ ∧ _)
        have HMM := Lib.hid (And.intro HQ7.out.h1 HQ7.out.h2)
        clear hbx8 hrs8 hb8 hoa8 b0 g0 b1 g1 hyc
        go_wp2_with fail
        refine rparse_fin ((heap_setCell_same _ _ 1 (.slice A9 l.length c9) (heap_setCell_same W8 _ 0 (.int .i64 N1) H8.out.1)).trans rfl) _ rfl rfl rfl rfl _ ?_
        rw [HE.out.1, HE.out.2.1, HE.out.2.2.1, HE.out.2.2.2]
        have ho2 : OA ((W8.setCell ⟨w.heap.size, 0, none⟩ (.int .i64 N1)).setCell ⟨w.heap.size, 1, none⟩ (.slice A9 l.length c9)) M (.slice A9 l.length c9) l xs := H8.out.2.2.keep (by simp) fun z hz _ => by rw [setCell_kept _ _ _ _ _ (by have := HMM.out; omega), setCell_kept _ _ _ _ _ (by have := HMM.out; omega)]
        obtain ⟨A2, cc2, he2, -, -, hrow2, -⟩ := ho2.row
        cases he2
        have hN := HNN.out
        refine ⟨A9, l.length, c9, rfl, ⟨?_, hrow2, HCC.out.1, HCC.out.2⟩, (H8.out.2.1.setCell (Nat.le_refl _) _).setCell (Nat.le_refl _) _⟩
        simp [Lit.wf, IntKind.min, IntKind.max, IntKind.signed, IntKind.bits]
        omega
end Go.Proofs.YtlodoilihminaaaGreatDoor
