/-
  ref25.ActOf.
-/
import Derived.Test.YtlodoilihminaaaGreatDoorScrZM
import Derived.Deep.CutRange
namespace Go.Proofs.YtlodoilihminaaaGreatDoor
open Go.ChangeShapes Go.WideShapes Go.ChangeAt Go.RowKit
set_option linter.unusedVariables false
set_option linter.unusedSimpArgs false
set_option maxRecDepth 100000
theorem kind_iff (l : List UInt8) (i : Nat) (hi : i < 7) : (actWs.getD i [] = l) ↔ kindOf l = (i : Int) + 1 := by
  constructor
  · rintro rfl
    have : ∀ j : Fin 7, kindOf (actWs.getD j.val []) = (j.val : Int) + 1 := by decide
    exact this ⟨i, hi⟩
  · intro h
    unfold kindOf at h
    split at h
    · rename_i h1
      have h2 : actWs.idxOf l = i := by omega
      have h3 : actWs.idxOf l < actWs.length := h1
      have h4 := List.getElem_idxOf h3
      rw [List.getD_eq_getElem?_getD, ← h2, List.getElem?_eq_getElem h3]
      exact h4
    · omega
theorem kind_bd (l : List UInt8) : 0 ≤ kindOf l ∧ kindOf l ≤ 7 := by
  unfold kindOf
  split <;> omega
/-- the kind, when i words have been looked at -/
def kdF (l : List UInt8) (i : Nat) : Int := if kindOf l ≤ (i : Int) then kindOf l else 0
theorem kdF_yes {l : List UInt8} {i : Nat} (hi : i < 7) (h : actWs.getD i [] = l) : kdF l (i + 1) = (i : Int) + 1 := by
  have := (kind_iff l i hi).1 h
  unfold kdF
  rw [this, if_pos (by omega)]
theorem kdF_no {l : List UInt8} {i : Nat} (hi : i < 7) (h : actWs.getD i [] ≠ l) : kdF l (i + 1) = kdF l i := by
  have h1 : kindOf l ≠ (i : Int) + 1 := fun e => h ((kind_iff l i hi).2 e)
  unfold kdF
  by_cases h2 : kindOf l ≤ (i : Int)
  · rw [if_pos h2, if_pos (by omega)]
  · rw [if_neg h2, if_neg (by omega)]
theorem kdF_all (l : List UInt8) : kdF l 7 = kindOf l := by
  have := kind_bd l
  unfold kdF
  rw [if_pos (by omega)]
/-- what lies there, while a line is read -/
structure RA (w W : World) (p : Nat) (ws : List (List UInt8)) (A : Option Addr) (n : Nat) (k : Int) (nm : List UInt8) (bA : Option Addr) (bn bc : Nat) (nA : Option Addr) (nn nc : Nat) (m f : Int) : Prop where
  hb : Below w.heap.size w W
  res : W.heap[w.heap.size]? = some (.cells #[.int .i64 0, .string ⟨#[]⟩, .slice none 0 0, .slice none 0 0, .int .i64 0, .int .i64 0] 27 (0, 0))
  hnm : NmRow W p A n ws
  box : W.heap[p]? = some (.cells (actC k nm bA bn bc nA nn nc m f) 27 (0, 0))
  hp : w.heap.size < p
section
variable {w W V : World} {p : Nat} {ws : List (List UInt8)} {A : Option Addr} {n : Nat} {k : Int} {nm : List UInt8} {bA : Option Addr} {bn bc : Nat} {nA : Option Addr} {nn nc : Nat} {m f : Int}
theorem RA.lt (h : RA w W p ws A n k nm bA bn bc nA nn nc m f) : p < W.heap.size := (Array.getElem?_eq_some_iff.1 h.box).1
theorem RA.below (h : RA w W p ws A n k nm bA bn bc nA nn nc m f) (hb : Below W.heap.size W V) : RA w V p ws A n k nm bA bn bc nA nn nc m f :=
  ⟨h.hb.trans (hb.mono h.hb.size), (hb.block _ (Array.getElem?_eq_some_iff.1 h.res).1).trans h.res, h.hnm.below (hb.mono (Nat.le_of_lt h.lt)), (hb.block _ h.lt).trans h.box, h.hp⟩
theorem RA.cells (h : RA w W p ws A n k nm bA bn bc nA nn nc m f) : W.cell? ⟨p, 0, none⟩ = some (.int .i64 k) ∧ W.cell? ⟨p, 1, none⟩ = some (.string (S nm)) ∧ W.cell? ⟨p, 2, none⟩ = some (.slice bA bn bc) ∧ W.cell? ⟨p, 3, none⟩ = some (.slice nA nn nc) ∧ W.cell? ⟨p, 4, none⟩ = some (.int .i64 m) ∧ W.cell? ⟨p, 5, none⟩ = some (.int .i64 f) := by
  refine ⟨?_, ?_, ?_, ?_, ?_, ?_⟩ <;> (rw [World.cell?, h.box]; rfl)
theorem RA.frz (h : RA w W p ws A n k nm bA bn bc nA nn nc m f) (i : Nat) : W.frozen? ⟨p, i, none⟩ = false := by rw [World.frozen?, h.box]; simp
theorem RA.rfrz (h : RA w W p ws A n k nm bA bn bc nA nn nc m f) (i : Nat) : W.frozen? ⟨w.heap.size, i, none⟩ = false := by rw [World.frozen?, h.res]; simp
theorem RA.word (h : RA w W p ws A n k nm bA bn bc nA nn nc m f) {j : Nat} (hj : j < n) : ∃ x, A = some x ∧ W.cell? (x.add j) = some (.string (S (nthL ws j))) := by
  obtain ⟨x, e, -, hc⟩ := h.hnm.2.2 (by omega)
  have hl : j < ws.length := by rw [h.hnm.1]; exact hj
  refine ⟨x, e, ?_⟩
  rw [hc j _ (List.getElem?_eq_getElem hl)]
  unfold nthL
  rw [List.getElem?_eq_getElem hl]
  rfl
theorem RA.put (h : RA w W p ws A n k nm bA bn bc nA nn nc m f) (i : Nat) (v : Value) {k' : Int} {nm' : List UInt8} {bA' : Option Addr} {bn' bc' : Nat} {nA' : Option Addr} {nn' nc' : Nat} {m' f' : Int} (he : (actC k nm bA bn bc nA nn nc m f).setIfInBounds i v = actC k' nm' bA' bn' bc' nA' nn' nc' m' f') : RA w (W.setCell ⟨p, i, none⟩ v) p ws A n k' nm' bA' bn' bc' nA' nn' nc' m' f' := by
  refine ⟨h.hb.setCell (p := ⟨p, i, none⟩) (Nat.le_of_lt h.hp) v, (setCell_kept _ _ _ _ _ (by have := h.hp; omega)).trans h.res, ?_, (heap_setCell_same W p i v h.box).trans (by rw [he]), h.hp⟩
  refine ⟨h.hnm.1, h.hnm.2.1, fun h0 => ?_⟩
  obtain ⟨x, e, hx, hc⟩ := h.hnm.2.2 h0
  refine ⟨x, e, hx, fun j l hl => ?_⟩
  rw [World.cell?_of_block (w := W) (setCell_kept _ _ _ _ _ (by rw [block_add]; omega))]
  exact hc j l hl
theorem RA.zero (h : RA w W p ws A n k nm bA bn bc nA nn nc m f) : (W.cell? ⟨w.heap.size, 0, none⟩ = some (.int .i64 0) ∧ W.cell? ⟨w.heap.size, 1, none⟩ = some (.string ⟨#[]⟩) ∧ W.cell? ⟨w.heap.size, 2, none⟩ = some (.slice none 0 0) ∧ W.cell? ⟨w.heap.size, 3, none⟩ = some (.slice none 0 0) ∧ W.cell? ⟨w.heap.size, 4, none⟩ = some (.int .i64 0) ∧ W.cell? ⟨w.heap.size, 5, none⟩ = some (.int .i64 0)) ∧ (W.frozen? ⟨w.heap.size, 0, none⟩ = false ∧ W.frozen? ⟨w.heap.size, 1, none⟩ = false ∧ W.frozen? ⟨w.heap.size, 2, none⟩ = false ∧ W.frozen? ⟨w.heap.size, 3, none⟩ = false ∧ W.frozen? ⟨w.heap.size, 4, none⟩ = false ∧ W.frozen? ⟨w.heap.size, 5, none⟩ = false) :=
  ⟨⟨by rw [World.cell?, h.res]; rfl, by rw [World.cell?, h.res]; rfl, by rw [World.cell?, h.res]; rfl, by rw [World.cell?, h.res]; rfl, by rw [World.cell?, h.res]; rfl, by rw [World.cell?, h.res]; rfl⟩, h.rfrz 0, h.rfrz 1, h.rfrz 2, h.rfrz 3, h.rfrz 4, h.rfrz 5⟩
end
theorem ractof_fin {W2 : World} {r : Nat} {u0 u1 u2 u3 u4 u5 : Value} {b : Bool} (h : W2.heap[r]? = some (.cells #[u0, u1, u2, u3, u4, u5] 27 (0, 0))) (a : Act) (h2 : a.tmps[2]? = some (.pointer (some ⟨r, 0, none⟩))) (h3 : a.tmps[3]? = some (.bool b)) (hd : a.defers = [])
    (R : Ending → World → Prop) (hR : R (.returned (.tuple #[.agg #[u0, u1, u2, u3, u4, u5], .bool b])) W2) :
    bodyPost Tryz.prog Tryz.f9 R .ret a W2 := by
  obtain ⟨tm, ds⟩ := a
  simp only at h2 h3 hd
  subst hd
  have q0 : W2.cell? ⟨r, 0, none⟩ = some u0 := by rw [World.cell?, h]; rfl
  have q1 : W2.cell? ⟨r, 1, none⟩ = some u1 := by rw [World.cell?, h]; rfl
  have q2 : W2.cell? ⟨r, 2, none⟩ = some u2 := by rw [World.cell?, h]; rfl
  have q3 : W2.cell? ⟨r, 3, none⟩ = some u3 := by rw [World.cell?, h]; rfl
  have q4 : W2.cell? ⟨r, 4, none⟩ = some u4 := by rw [World.cell?, h]; rfl
  have q5 : W2.cell? ⟨r, 5, none⟩ = some u5 := by rw [World.cell?, h]; rfl
  refine bodyPost_ret ?_ rfl hR
  simp [results, Tryz.f9, go_sem, h2, h3, q0, q1, q2, q3, q4, q5]
theorem at_plain (W : World) (k : Int) (nm : List UInt8) (m f : Int) (hn : nm.length ≤ maxLen) (hm : -9223372036854775808 ≤ m ∧ m ≤ 9223372036854775807) (hf : -9223372036854775808 ≤ f ∧ f ≤ 9223372036854775807) : ActAt W ⟨k, nm, [], [], m, f⟩ none 0 0 none 0 0 :=
  ⟨hn, ⟨rfl, fun h => absurd h (by omega)⟩, (fun x hx => by cases hx), Nat.zero_le _, Nat.le_refl _, ⟨rfl, (fun x hx => by cases hx), fun h => absurd h (by omega)⟩, Nat.zero_le _, hm, hf⟩
theorem read_no {s : List UInt8} (h : readB s = false) : rdA s = Ac.none := by unfold rdA; rw [h]; rfl
theorem read_yes {s : List UInt8} (h : readB s = true) : rdA s = rA s := by unfold rdA; rw [if_pos h, (rA_read s).2 h]
theorem rA_zero {s : List UInt8} (h : kindOf (nthL (spl s) 0) = 0 ∨ kindOf (nthL (spl s) 0) < 7 ∧ (spl s).length < 2) : readB s = false := by
  have e : rA s = Ac.none := by unfold rA; rw [if_pos h]
  rw [← (rA_read s).1, e]
  rfl
theorem nth_len (s : List UInt8) (i : Nat) : (nthL (spl s) i).length ≤ s.length := by
  unfold nthL
  rcases h : (spl s)[i]? with _ | x
  · simp
  · exact spl_mem s x (List.mem_of_getElem? h)
theorem numR_bd (l : List UInt8) : -1 ≤ numR l ∧ numR l ≤ 100000000000000 := by
  unfold numR
  split
  · rename_i h
    split
    · have h1 := nrV_lt (l.take 14) fun c hc => List.all_eq_true.1 h c hc
      have h2 : (l.take 14).length ≤ 14 := by rw [List.length_take]; omega
      have h3 : 10 ^ (l.take 14).length ≤ 10 ^ 14 := Nat.pow_le_pow_right (by omega) h2
      omega
    · omega
  · omega
theorem nm_drop {W : World} {B : Nat} {x : Addr} {n : Nat} {ws : List (List UInt8)} (h : NmRow W B (some x) n ws) (hn : 3 < n) : NmRow W B (some ⟨x.block, x.off + 3, none⟩) (n - 3) (ws.drop 3) := by
  refine ⟨by rw [List.length_drop, h.1], fun l hl => h.2.1 l (List.mem_of_mem_drop hl), fun _ => ?_⟩
  obtain ⟨y, e, hy, hc⟩ := h.2.2 (by omega)
  cases e
  refine ⟨_, rfl, hy, fun i l hl => ?_⟩
  rw [List.getElem?_drop] at hl
  have := hc (3 + i) l hl
  rwa [show (⟨x.block, x.off + 3, none⟩ : Addr) = x.add 3 from rfl, Addr.add_add]
theorem spl_sum (l : List UInt8) : ((spl l).map fun x => x.length + 1).sum = l.length + 1 := by
  induction l with
  | nil => rfl
  | cons c l ih =>
    rw [spl]
    split
    · rw [List.map_cons, List.sum_cons, ih, List.length_cons, List.length_nil]; omega
    · cases h : spl l with
      | nil => exact absurd h (spl_ne l)
      | cons w r =>
        rw [h] at ih
        simp only [List.map_cons, List.sum_cons, List.length_cons] at ih ⊢
        omega
theorem spl_three {s : List UInt8} (h : 3 ≤ (spl s).length) : (nthL (spl s) 0).length + (nthL (spl s) 1).length + 2 ≤ s.length := by
  have hs := spl_sum s
  match hq : spl s, h with
  | a :: b :: d :: r, _ =>
    rw [hq] at hs
    simp only [List.map_cons, List.sum_cons] at hs
    show a.length + b.length + 2 ≤ _
    omega
theorem rd_set {W : World} {A : Option Addr} {n p i : Nat} {zs : List Int} {v : Value} (h : Rd W W.heap.size .u8 A n zs) (hlo : RLo (p + 1) A n) : Rd (W.setCell ⟨p, i, none⟩ v) (W.setCell ⟨p, i, none⟩ v).heap.size .u8 A n zs := by
  refine ⟨h.1, fun h0 => ?_⟩
  obtain ⟨x, e, hx, hc⟩ := h.2 h0
  obtain ⟨y, e2, hy⟩ := hlo h0
  rw [e] at e2
  cases e2
  refine ⟨x, e, by simpa using hx, fun j hj => ?_⟩
  rw [World.cell?_of_block (w := W) (setCell_kept _ _ _ _ _ (by rw [block_add]; omega))]
  exact hc j hj
theorem ofHx_len2 (l : List UInt8) : (ofHx l).length = l.length / 2 := by
  induction l using ofHx.induct with
  | case1 a b l ih => rw [ofHx, List.length_cons, ih, List.length_cons, List.length_cons]; omega
  | case2 l h =>
    match l, h with
    | [], _ => rfl
    | [a], _ => rw [show ofHx [a] = [] by unfold ofHx; rfl]; simp
    | a :: b :: l, h => exact absurd rfl (h a b l)
theorem ofHx_get : ∀ (l : List UInt8) (j : Nat) (a b : UInt8), l[2 * j]? = some a → l[2 * j + 1]? = some b → (ofHx l)[j]? = some ((hv a * 16 + hv b : Nat) : Int)
  | [], j, a, b, h, _ => by simp at h
  | [c], j, a, b, _, h => by simp at h
  | c :: d :: l, 0, a, b, h1, h2 => by
    simp at h1 h2
    subst h1
    subst h2
    rfl
  | c :: d :: l, j + 1, a, b, h1, h2 => by
    rw [ofHx, List.getElem?_cons_succ]
    exact ofHx_get l j a b (by rw [show 2 * (j + 1) = 2 * j + 1 + 1 by omega] at h1; simpa using h1) (by rw [show 2 * (j + 1) + 1 = 2 * j + 1 + 1 + 1 by omega] at h2; simpa using h2)
theorem hv_lt2 (c : UInt8) : hv c < 16 := by unfold hv; split <;> (try split) <;> omega
theorem idx_run (sw : ByteArray) (q : Nat) (h : q < sw.size) (ch : UInt8) (g : sw[q] = ch) (V : World) : (Instr.index 9 (.string sw) (.int .i64 (q : Int))).run Tryz.prog V = .ok (.int .u8 (ch.toNat : Int)) V := by
  rw [run_index_string (P := Tryz.prog) V 9 sw .i64 (q : Int) Tryz.underlying9]
  simp [h, g]
theorem RA.grown {w W V : World} {p : Nat} {ws : List (List UInt8)} {A : Option Addr} {n : Nat} {k : Int} {nm : List UInt8} {bA : Option Addr} {bn bc : Nat} {nA : Option Addr} {nn nc : Nat} {m f : Int} {row : Option Nat} (h : RA w W p ws A n k nm bA bn bc nA nn nc m f) (hg : W.grownBy V row) (hr : ∀ z, row = some z → p < z) : RA w V p ws A n k nm bA bn bc nA nn nc m f := by
  have hp := h.hp
  have hlt := h.lt
  have kp : ∀ z, z ≤ p → V.heap[z]? = W.heap[z]? := fun z hz => hg.block z (by omega) (fun e => by have := hr z e.symm; omega)
  refine ⟨h.hb.trans ⟨hg.os, hg.tape, hg.output, hg.size, fun z hz => kp z (by omega)⟩, (kp _ (by omega)).trans h.res, ⟨h.hnm.1, h.hnm.2.1, fun h0 => ?_⟩, (kp _ (Nat.le_refl _)).trans h.box, h.hp⟩
  obtain ⟨x, e, hx, hc⟩ := h.hnm.2.2 h0
  refine ⟨x, e, hx, fun i l hl => ?_⟩
  rw [World.cell?_of_block (w := W) (kp _ (by rw [block_add]; omega))]
  exact hc i l hl
set_option maxHeartbeats 8000000 in
theorem ractOf_any (w : World) (s : List UInt8) (hs : s.length ≤ 1000000) (hT : Tb w) :
    Calls Tryz.prog 9 #[.string (S s)] w fun e w' => ∃ bA bn bc nA nn nc, e = .returned (.tuple #[.agg (actC (rdA s).kind (rdA s).name bA bn bc nA nn nc (rdA s).mem (rdA s).fuel), .bool (readB s)]) ∧ ActAt w' (rdA s) bA bn bc nA nn nc ∧ RLo w.heap.size bA bn ∧ RLo w.heap.size nA nn ∧ Below w.heap.size w w' := by
  have HT := Lib.hid hT
  have hq0 := heap_alloc_new w (.cells #[.int .i64 0, .string ⟨#[]⟩, .slice none 0 0, .slice none 0 0, .int .i64 0, .int .i64 0] 27)
  have hb0 := sbelow1 w (.cells #[.int .i64 0, .string ⟨#[]⟩, .slice none 0 0, .slice none 0 0, .int .i64 0, .int .i64 0] 27)
  clear hT
  go_enter Tryz.func9, Tryz.ntmps9
  go_upto_region 1 with fail
  have hs1 : (w.alloc (.cells #[.int .i64 0, .string ⟨#[]⟩, .slice none 0 0, .slice none 0 0, .int .i64 0, .int .i64 0] 27)).heap.size = w.heap.size + 1 := by simp
  generalize w.alloc (.cells #[.int .i64 0, .string ⟨#[]⟩, .slice none 0 0, .slice none 0 0, .int .i64 0, .int .i64 0] 27) = W1 at hq0 hb0 hs1 ⊢
  have HS1 := Lib.hid hs1
  clear hs1
  have HQ := Lib.hid hq0
  have HB := Lib.hid hb0
  clear hq0 hb0
  go_upto_region 2 with (go_at_call 29; (with_reducible refine (rcut_any _ s hs).mono ?_); rintro e w2 ⟨A, n, c, rfl, hn, hnc, hnm, hlo, hb⟩; have HB2 := Lib.hid (HB.out.trans (hb.mono HB.out.size)); have HN := Lib.hid (⟨hn, hnc, hnm, hlo⟩ : _ ∧ _ ∧ _ ∧ _); have HQ2 := Lib.hid ((hb.block _ (Array.getElem?_eq_some_iff.1 HQ.out).1).trans HQ.out); clear hn hnc hnm hlo hb)
  go_upto_region 3 with fail
  have hra : RA w (w2.alloc (.cells #[.int .i64 0, .string ⟨#[]⟩, .slice none 0 0, .slice none 0 0, .int .i64 0, .int .i64 0] 27)) w2.heap.size (spl s) A n (kdF (nthL (spl s) 0) 0) [] none 0 0 none 0 0 0 0 := by
    have h0 : kdF (nthL (spl s) 0) 0 = 0 := by have := kind_bd (nthL (spl s) 0); unfold kdF; split <;> omega
    rw [h0]
    have hlt := (Array.getElem?_eq_some_iff.1 HQ2.out).1
    exact ⟨HB2.out.alloc HB2.out.size _, (Below.heap_alloc w2 _ _ hlt).trans HQ2.out, HN.out.2.2.1.below (sbelow1 w2 _), (heap_alloc_new w2 _).trans rfl, hlt⟩
  generalize w2.alloc (.cells #[.int .i64 0, .string ⟨#[]⟩, .slice none 0 0, .slice none 0 0, .int .i64 0, .int .i64 0] 27) = W3 at hra ⊢
  obtain ⟨p, hp⟩ : ∃ p, p = w2.heap.size := ⟨_, rfl⟩
  rw [← hp] at hra ⊢
  have HN2 : Hid (n = (spl s).length ∧ n ≤ c ∧ RLo (w.heap.size + 1) A n) := Lib.hid ⟨HN.out.1, HN.out.2.1, by rw [← HS1.out]; exact HN.out.2.2.2⟩
  have hn1 : 1 ≤ n := by rw [HN.out.1]; exact List.length_pos_iff.2 (spl_ne s)
  have hn2 : n ≤ 1000001 := by rw [HN.out.1]; have := spl_count s; omega
  have HRA := Lib.hid hra
  clear hp hra HB2 HN HQ2 HQ HB
  go_wp2_with fail
  go_loopw [6] (fun iv wr => ∃ i : Nat, i ≤ 7 ∧ iv = .int .i64 (i : Int) ∧ Hid (RA w wr p (spl s) A n (kdF (nthL (spl s) 0) i) [] none 0 0 none 0 0 0 0)) (fun iv _ => 7 - (intOf iv).toNat)
  case atStart => exact ⟨0, by omega, rfl, HRA⟩
  case round =>
    obtain ⟨i, hi, rfl, HRI⟩ := hrel
    clear HRA
    by_cases hlt : i < 7
    · obtain ⟨x, rfl, hx⟩ := HRI.out.word (j := 0) (by omega)
      have HX0 : Hid (∀ V : World, Below wr.heap.size wr V → V.cell? x = some (.string (S (nthL (spl s) 0)))) := Lib.hid fun V hV => by
        have e : x.add 0 = x := by first | exact Addr.add_zero x | (unfold Addr.add; split <;> simp_all)
        rw [e] at hx
        exact (hV.cell (World.block_lt_of_cell? _ _ hx)).trans hx
      have HWD : Hid (∀ U : World, Calls Tryz.prog 30 #[] U fun e w' => ∃ g, e = .returned (.slice (some ⟨g, 0, none⟩) 7 7) ∧ Below U.heap.size U w' ∧ w'.cell? ⟨g, i, none⟩ = some (.string (S (actWs.getD i [])))) := Lib.hid fun U => by
        refine (rwords_any U).mono ?_
        rintro e w' ⟨rfl, rfl⟩
        exact ⟨_, rfl, sbelow1 U _, acts_cell U (Below.refl _ _) i hlt⟩
      have hcmp := S_ne (l := nthL (spl s) 0) (m := actWs.getD i [])
      obtain ⟨eqb, heq⟩ : ∃ eqb, eqb = decide (nthL (spl s) 0 = actWs.getD i []) := ⟨_, rfl⟩
      rw [← heq] at hcmp
      have HEQ : Hid (if eqb = true then actWs.getD i [] = nthL (spl s) 0 else actWs.getD i [] ≠ nthL (spl s) 0) := Lib.hid (by
        rw [heq]
        by_cases h : nthL (spl s) 0 = actWs.getD i []
        · rw [decide_eq_true h, if_pos rfl]; exact h.symm
        · rw [decide_eq_false h, if_neg (by decide)]; exact fun e => h e.symm)
      clear heq hx
      obtain ⟨w0, hw0⟩ : ∃ w0, w0 = S (nthL (spl s) 0) := ⟨_, rfl⟩
      obtain ⟨wi, hwi⟩ : ∃ wi, wi = S (actWs.getD i []) := ⟨_, rfl⟩
      rw [← hw0] at HX0 hcmp
      rw [← hwi] at HWD hcmp
      clear hw0 hwi
      go_upto_region 6 with fail
      rw [show decide ((i : Int) < 7) = true by simp; omega]
      have HLT := Lib.hid hlt
      clear hlt
      refine wp_region_inv' 8 rfl (fun L a' w' => ∃ y0 y1 y2 y3 y4 y5 y6 y7 : Value, a' = { tmps := List.toArray ((.string (S s)) :: undef :: (.pointer (some ⟨w.heap.size, 0, none⟩)) :: (.bool false) :: (.slice (some x) n c) :: (.pointer (some ⟨p, 0, none⟩)) :: (.int .i64 (i : Int)) :: undef :: (.string (S s)) :: (.slice (some x) n c) :: (.int .i64 (i : Int)) :: (.bool true) :: u12 :: u13 :: y0 :: y1 :: y2 :: y3 :: y4 :: y5 :: y6 :: y7 :: u22 :: u23 :: u24 :: undef :: undef :: undef :: undef :: undef :: undef :: undef :: undef :: undef :: undef :: undef :: undef :: undef :: undef :: undef :: undef :: undef :: undef :: undef :: undef :: undef :: undef :: undef :: undef :: undef :: undef :: undef :: undef :: undef :: undef :: undef :: undef :: undef :: undef :: undef :: undef :: undef :: undef :: undef :: undef :: undef :: undef :: undef :: undef :: undef :: undef :: undef :: undef :: undef :: undef :: undef :: undef :: undef :: undef :: undef :: undef :: undef :: undef :: undef :: undef :: undef :: undef :: undef :: undef :: undef :: undef :: undef :: undef :: undef :: undef :: undef :: undef :: undef :: undef :: undef :: undef :: undef :: undef :: undef :: undef :: undef :: undef :: undef :: undef :: undef :: undef :: undef :: undef :: undef :: undef :: undef :: undef :: undef :: undef :: undef :: undef :: undef :: undef :: undef :: undef :: undef :: undef :: undef :: undef :: undef :: undef :: undef :: undef :: undef :: undef :: undef :: undef :: undef :: undef :: undef :: undef :: undef :: undef :: undef :: undef :: undef :: undef :: undef :: undef :: undef :: undef :: undef :: undef :: undef :: undef :: undef :: undef :: undef :: undef :: undef :: []), defers := [] } ∧ (L 0 = true → y0 = .slice (some x) n c) ∧ (L 1 = true → y1 = .pointer (some x)) ∧ (L 2 = true → y2 = .string w0) ∧ (L 3 = true → ∃ g, y3 = .slice (some ⟨g, 0, none⟩) 7 7) ∧ (L 4 = true → y4 = .int .i64 (i : Int)) ∧ (L 5 = true → ∃ g, y3 = .slice (some ⟨g, 0, none⟩) 7 7 ∧ y5 = .pointer (some ⟨g, i, none⟩)) ∧ (L 6 = true → y6 = .string wi) ∧ (L 7 = true → y7 = .bool eqb) ∧ (Below wr.heap.size wr w') ∧ (L 3 = true → ∀ g, y3 = .slice (some ⟨g, 0, none⟩) 7 7 → w'.cell? ⟨g, i, none⟩ = some (.string wi))) (by kernel_rfl) (by kernel_rfl) ?h0 ?step ?fin
      case h0 => exact ⟨u14, u15, u16, u17, u18, u19, u20, u21, rfl, (fun e => by simp at e), (fun e => by simp at e), (fun e => by simp at e), (fun e => by simp at e), (fun e => by simp at e), (fun e => by simp at e), (fun e => by simp at e), (fun e => by simp at e), (Below.refl _ _).drew, (fun e => by simp at e)⟩
      case step =>
        rintro i hi L a' w' hLi hcl hdp ⟨y0, y1, y2, y3, y4, y5, y6, y7, rfl, e0, e1, e2, e3, e4, e5, e6, e7, hw0, hw1⟩
        have hi2 : i = 0 ∨ i = 1 ∨ i = 2 ∨ i = 3 ∨ i = 4 ∨ i = 5 ∨ i = 6 ∨ i = 7 := by omega
        rcases hi2 with rfl | rfl | rfl | rfl | rfl | rfl | rfl | rfl
        · have HF0 := Lib.hid hw0; have HF1 := Lib.hid hw1
          have E1 := Lib.hid e1; have E2 := Lib.hid e2; have E3 := Lib.hid e3; have E4 := Lib.hid e4; have E5 := Lib.hid e5; have E6 := Lib.hid e6; have E7 := Lib.hid e7
          clear e0 e1 e2 e3 e4 e5 e6 e7 hw0 hw1
          refine wpOp_step rfl (fun K hK => ?_)
          go_simp
          exact hK _ _ ⟨_, _, _, _, _, _, _, _, rfl, (fun _ => rfl), (fun h => E1.out (by simpa [upOn] using h)), (fun h => E2.out (by simpa [upOn] using h)), (fun h => E3.out (by simpa [upOn] using h)), (fun h => E4.out (by simpa [upOn] using h)), (fun h => E5.out (by simpa [upOn] using h)), (fun h => E6.out (by simpa [upOn] using h)), (fun h => E7.out (by simpa [upOn] using h)), HF0.out, (fun h0 => HF1.out (by simpa [upOn] using h0))⟩
        · have HF0 := Lib.hid hw0; have HF1 := Lib.hid hw1
          have l0 := (hdp 0 (by kernel_rfl))
          obtain rfl := e0 l0
          have E2 := Lib.hid e2; have E3 := Lib.hid e3; have E4 := Lib.hid e4; have E5 := Lib.hid e5; have E6 := Lib.hid e6; have E7 := Lib.hid e7
          clear e0 e1 e2 e3 e4 e5 e6 e7 hw0 hw1
          have n0 : (0 : Int) < (n : Int) := by omega
          have n0b : 0 < n := by omega
          refine wpOp_step rfl (fun K hK => ?_)
          go_simp
          exact hK _ _ ⟨_, _, _, _, _, _, _, _, rfl, (fun _ => rfl), (fun _ => by simp), (fun h => E2.out (by simpa [upOn] using h)), (fun h => E3.out (by simpa [upOn] using h)), (fun h => E4.out (by simpa [upOn] using h)), (fun h => E5.out (by simpa [upOn] using h)), (fun h => E6.out (by simpa [upOn] using h)), (fun h => E7.out (by simpa [upOn] using h)), HF0.out, (fun h0 => HF1.out (by simpa [upOn] using h0))⟩
        · have HF0 := Lib.hid hw0; have HF1 := Lib.hid hw1
          have l1 := (hdp 1 (by kernel_rfl))
          obtain rfl := e1 l1
          have E0 := Lib.hid e0; have E3 := Lib.hid e3; have E4 := Lib.hid e4; have E5 := Lib.hid e5; have E6 := Lib.hid e6; have E7 := Lib.hid e7
          clear e0 e1 e2 e3 e4 e5 e6 e7 hw0 hw1
          have k0 := HX0.out _ HF0.out
          refine wpOp_step rfl (fun K hK => ?_)
          go_simp
          exact hK _ _ ⟨_, _, _, _, _, _, _, _, rfl, (fun h => E0.out (by simpa [upOn] using h)), (fun _ => rfl), (fun _ => rfl), (fun h => E3.out (by simpa [upOn] using h)), (fun h => E4.out (by simpa [upOn] using h)), (fun h => E5.out (by simpa [upOn] using h)), (fun h => E6.out (by simpa [upOn] using h)), (fun h => E7.out (by simpa [upOn] using h)), HF0.out, (fun h0 => HF1.out (by simpa [upOn] using h0))⟩
        · have HF0 := Lib.hid hw0; have HF1 := Lib.hid hw1
          have l5 : L 5 = false := by
            cases h : L 5
            · rfl
            · exact absurd (hcl 5 3 h (by kernel_rfl)) (by rw [hLi]; decide)
          have E0 := Lib.hid e0; have E1 := Lib.hid e1; have E2 := Lib.hid e2; have E4 := Lib.hid e4; have E5 := Lib.hid e5; have E6 := Lib.hid e6; have E7 := Lib.hid e7
          clear e0 e1 e2 e3 e4 e5 e6 e7 hw0 hw1
          refine wpOp_step rfl (fun K hK => ?_)
          go_simp
          refine (HWD.out _).mono ?_
          rintro e v1 ⟨g, rfl, hb, hc⟩
          exact hK _ _ ⟨_, _, _, _, _, _, _, _, rfl, (fun h => E0.out (by simpa [upOn] using h)), (fun h => E1.out (by simpa [upOn] using h)), (fun h => E2.out (by simpa [upOn] using h)), (fun _ => ⟨_, rfl⟩), (fun h => E4.out (by simpa [upOn] using h)), (fun h => by simp [upOn, l5] at h), (fun h => E6.out (by simpa [upOn] using h)), (fun h => E7.out (by simpa [upOn] using h)), (HF0.out.trans (hb.mono HF0.out.size)), (fun _ g hg => by cases hg; exact hc)⟩
        · have HF0 := Lib.hid hw0; have HF1 := Lib.hid hw1
          have E0 := Lib.hid e0; have E1 := Lib.hid e1; have E2 := Lib.hid e2; have E3 := Lib.hid e3; have E5 := Lib.hid e5; have E6 := Lib.hid e6; have E7 := Lib.hid e7
          clear e0 e1 e2 e3 e4 e5 e6 e7 hw0 hw1
          refine wpOp_step rfl (fun K hK => ?_)
          go_simp
          exact hK _ _ ⟨_, _, _, _, _, _, _, _, rfl, (fun h => E0.out (by simpa [upOn] using h)), (fun h => E1.out (by simpa [upOn] using h)), (fun h => E2.out (by simpa [upOn] using h)), (fun h => E3.out (by simpa [upOn] using h)), (fun _ => rfl), (fun h => E5.out (by simpa [upOn] using h)), (fun h => E6.out (by simpa [upOn] using h)), (fun h => E7.out (by simpa [upOn] using h)), HF0.out, (fun h0 => HF1.out (by simpa [upOn] using h0))⟩
        · have HF0 := Lib.hid hw0; have HF1 := Lib.hid hw1
          have l3 := (hdp 3 (by kernel_rfl))
          have l4 := (hdp 4 (by kernel_rfl))
          obtain ⟨g, rfl⟩ := e3 l3
          obtain rfl := e4 l4
          have E0 := Lib.hid e0; have E1 := Lib.hid e1; have E2 := Lib.hid e2; have E6 := Lib.hid e6; have E7 := Lib.hid e7
          clear e0 e1 e2 e3 e4 e5 e6 e7 hw0 hw1
          refine wpOp_step rfl (fun K hK => ?_)
          go_simp
          exact hK _ _ ⟨_, _, _, _, _, _, _, _, rfl, (fun h => E0.out (by simpa [upOn] using h)), (fun h => E1.out (by simpa [upOn] using h)), (fun h => E2.out (by simpa [upOn] using h)), (fun _ => ⟨_, rfl⟩), (fun _ => rfl), (fun _ => ⟨_, rfl, rfl⟩), (fun h => E6.out (by simpa [upOn] using h)), (fun h => E7.out (by simpa [upOn] using h)), HF0.out, (fun h0 => HF1.out (by simpa [upOn] using h0))⟩
        · have HF0 := Lib.hid hw0; have HF1 := Lib.hid hw1
          have l5 := (hdp 5 (by kernel_rfl))
          obtain ⟨g, hg, rfl⟩ := e5 l5
          have E0 := Lib.hid e0; have E1 := Lib.hid e1; have E2 := Lib.hid e2; have E3 := Lib.hid e3; have E4 := Lib.hid e4; have E7 := Lib.hid e7
          clear e0 e1 e2 e3 e4 e5 e6 e7 hw0 hw1
          have l3 := hcl 5 3 l5 (by kernel_rfl)
          have k1 := HF1.out l3 g hg
          have HG := Lib.hid hg
          clear hg
          refine wpOp_step rfl (fun K hK => ?_)
          go_simp
          exact hK _ _ ⟨_, _, _, _, _, _, _, _, rfl, (fun h => E0.out (by simpa [upOn] using h)), (fun h => E1.out (by simpa [upOn] using h)), (fun h => E2.out (by simpa [upOn] using h)), (fun h => E3.out (by simpa [upOn] using h)), (fun h => E4.out (by simpa [upOn] using h)), (fun _ => ⟨_, HG.out, rfl⟩), (fun _ => rfl), (fun h => E7.out (by simpa [upOn] using h)), HF0.out, (fun h0 => HF1.out (by simpa [upOn] using h0))⟩
        · have HF0 := Lib.hid hw0; have HF1 := Lib.hid hw1
          have l2 := (hdp 2 (by kernel_rfl))
          have l6 := (hdp 6 (by kernel_rfl))
          obtain rfl := e2 l2
          obtain rfl := e6 l6
          have E0 := Lib.hid e0; have E1 := Lib.hid e1; have E3 := Lib.hid e3; have E4 := Lib.hid e4; have E5 := Lib.hid e5
          clear e0 e1 e2 e3 e4 e5 e6 e7 hw0 hw1
          refine wpOp_step rfl (fun K hK => ?_)
          go_simp
          exact hK _ _ ⟨_, _, _, _, _, _, _, _, rfl, (fun h => E0.out (by simpa [upOn] using h)), (fun h => E1.out (by simpa [upOn] using h)), (fun _ => rfl), (fun h => E3.out (by simpa [upOn] using h)), (fun h => E4.out (by simpa [upOn] using h)), (fun h => E5.out (by simpa [upOn] using h)), (fun _ => rfl), (fun _ => rfl), HF0.out, (fun h0 => HF1.out (by simpa [upOn] using h0))⟩
      case fin =>
        rintro L a' w' hall ⟨y0, y1, y2, y3, y4, y5, y6, y7, rfl, e0, e1, e2, e3, e4, e5, e6, e7, hw0, hw1⟩
        obtain rfl := e0 (hall 0 (by omega))
        obtain rfl := e1 (hall 1 (by omega))
        obtain rfl := e2 (hall 2 (by omega))
        obtain ⟨g, rfl⟩ := e3 (hall 3 (by omega))
        obtain rfl := e4 (hall 4 (by omega))
        obtain ⟨g, hg, rfl⟩ := e5 (hall 5 (by omega))
        obtain rfl := e6 (hall 6 (by omega))
        obtain rfl := e7 (hall 7 (by omega))
        have HF6 := Lib.hid hw0
        clear hw0 hw1 hall hg
        have HR6 := Lib.hid (HRI.out.below HF6.out)
        obtain ⟨k0, -⟩ := HR6.out.cells
        have f0 := HR6.out.frz 0
        cases eqb with
        | false =>
          have HKD := Lib.hid (kdF_no HLT.out HEQ.out)
          go_wp2_with fail
          exact ⟨⟨i + 1, by have := HLT.out; omega, by go_num, Lib.hid (by rw [HKD.out]; exact HR6.out)⟩, by have := HLT.out; simp [intOf]; omega⟩
        | true =>
          have HKD := Lib.hid (kdF_yes HLT.out HEQ.out)
          go_wp2_with fail
          exact ⟨⟨i + 1, by have := HLT.out; omega, by go_num, Lib.hid (by rw [HKD.out]; exact HR6.out.put 0 _ rfl)⟩, by have := HLT.out; simp [intOf]; omega⟩
    · have hi7 : i = 7 := by omega
      subst hi7
      have hra := HRI.out
      rw [kdF_all] at hra
      have HR7 := Lib.hid hra
      clear hra HRI hlt hi
      go_upto_region 8 with fail
      obtain ⟨K, hK⟩ : ∃ K, K = kindOf (nthL (spl s) 0) := ⟨_, rfl⟩
      have hkb := kind_bd (nthL (spl s) 0)
      rw [← hK] at HR7 hkb
      have HRD := Lib.hid (rA_read s)
      have HKK := Lib.hid hK
      have HLE := Lib.hid (show (spl s).length = n from HN2.out.1.symm)
      clear hK
      obtain ⟨k0, k1, k2, k3, k4, k5⟩ := HR7.out.cells
      by_cases h0 : K = 0
      · subst h0
        have HRB : Hid (readB s = false) := Lib.hid (rA_zero (.inl HKK.out.symm))
        obtain ⟨⟨z0, z1, z2, z3, z4, z5⟩, y0, y1, y2, y3, y4, y5⟩ := HR7.out.zero
        clear hkb
        go_wp2_with fail
        refine ractof_fin (put6_block HR7.out.res (.int .i64 0) (.string ⟨#[]⟩) (.slice none 0 0) (.slice none 0 0) (.int .i64 0) (.int .i64 0)) _ rfl rfl rfl _ ?_
        rw [read_no HRB.out, HRB.out]
        exact ⟨none, 0, 0, none, 0, 0, rfl, none_at _ 0, (fun h => absurd h (by omega)), (fun h => absurd h (by omega)), put6_below HR7.out.hb _ (Nat.le_refl _) _ _ _ _ _ _⟩
      by_cases h7 : K = 7
      · subst h7
        clear hkb h0
        have hraE : rA s = ⟨7, [], [], [], 0, 0⟩ := by
          unfold rA
          rw [← HKK.out, if_neg (by omega), if_neg (by omega), if_neg (by omega), if_neg (by omega), if_neg (by omega), if_neg (by omega)]
        go_upto_region 24 with fail
        obtain ⟨ra, hra⟩ : ∃ ra, ra = rA s := ⟨_, rfl⟩
        rw [← hra] at HRD
        have HF : Hid (RA w wr p (spl s) A n ra.kind ra.name none 0 0 none 0 0 ra.mem ra.fuel) := Lib.hid (by rw [hra, hraE]; exact HR7.out)
        have HAT : Hid (ActAt wr ra none 0 0 none 0 0) := Lib.hid (by rw [hra, hraE]; exact at_plain _ _ _ _ _ (Nat.zero_le _) (by omega) (by omega))
        have HLO : Hid (RLo (w.heap.size + 1) none 0 ∧ RLo (w.heap.size + 1) none 0) := Lib.hid ⟨fun h => absurd h (by omega), fun h => absurd h (by omega)⟩
        have HRA := Lib.hid hra
        clear hraE hra k0 k1 k2 k3 k4 k5
        have HMA := Lib.hid (rmayact_any wr ra none 0 0 none 0 0 HAT.out)
        obtain ⟨k0, k1, k2, k3, k4, k5⟩ := HF.out.cells
        unfold actC at HMA
        cases hmay : ra.may with
        | false =>
          rw [hmay] at HMA
          have HRB : Hid (readB s = false) := Lib.hid (by rw [← HRD.out.1, hmay]; rfl)
          clear hmay
          go_wp2_with (go_at_call 33; (with_reducible refine HMA.out.mono ?_); rintro e w8 ⟨rfl, hb⟩; have HF8 := Lib.hid (HF.out.below hb); obtain ⟨⟨z0, z1, z2, z3, z4, z5⟩, y0, y1, y2, y3, y4, y5⟩ := HF8.out.zero; clear hb)
          refine ractof_fin (put6_block HF8.out.res (.int .i64 0) (.string ⟨#[]⟩) (.slice none 0 0) (.slice none 0 0) (.int .i64 0) (.int .i64 0)) _ rfl rfl rfl _ ?_
          rw [read_no HRB.out, HRB.out]
          exact ⟨none, 0, 0, none, 0, 0, rfl, none_at _ 0, (fun h => absurd h (by omega)), (fun h => absurd h (by omega)), put6_below HF8.out.hb _ (Nat.le_refl _) _ _ _ _ _ _⟩
        | true =>
          rw [hmay] at HMA
          have HTX := Lib.hid (fun V (hV : Below wr.heap.size wr V) => ractText_any V ra none 0 0 none 0 0 (HAT.out.below hV) hmay (HT.out.below (HF.out.below hV).hb).t)
          unfold actC at HTX
          have HMY := Lib.hid hmay
          have hcmp := S_ne (l := ra.txt) (m := s)
          clear hmay
          by_cases hts : ra.txt = s
          · rw [decide_eq_true hts] at hcmp
            have HRB : Hid (readB s = true) := Lib.hid (by rw [← HRD.out.1, HMY.out, decide_eq_true hts]; rfl)
            clear hts
            generalize S ra.txt = ts at *
            go_wp2_with (first
              | (go_at_call 33; (with_reducible refine HMA.out.mono ?_); rintro e w8 ⟨rfl, hb⟩; have HB8 := Lib.hid hb; obtain ⟨k0, k1, k2, k3, k4, k5⟩ := (HF.out.below hb).cells; clear hb)
              | (go_at_call 34; (with_reducible refine (HTX.out _ HB8.out).mono ?_); rintro e w9 ⟨rfl, hb⟩; have HB9 := Lib.hid (HB8.out.trans (hb.mono HB8.out.size)); have HF9 := Lib.hid (HF.out.below (HB8.out.trans (hb.mono HB8.out.size))); obtain ⟨k0, k1, k2, k3, k4, k5⟩ := HF9.out.cells; obtain ⟨⟨z0, z1, z2, z3, z4, z5⟩, y0, y1, y2, y3, y4, y5⟩ := HF9.out.zero; clear hb))
            refine ractof_fin (put6_block HF9.out.res (.int .i64 ra.kind) (.string (S ra.name)) (.slice none 0 0) (.slice none 0 0) (.int .i64 ra.mem) (.int .i64 ra.fuel)) _ rfl rfl rfl _ ?_
            rw [read_yes HRB.out, HRB.out, ← HRA.out]
            exact ⟨none, 0, 0, none, 0, 0, rfl, (HAT.out.below HB9.out).keep HLO.out.1 HLO.out.2 (Nat.le_of_eq (put6_size _ _ _ _ _ _ _ _).symm) (fun z hz _ => put6_other _ _ _ _ _ _ _ _ _ (by omega)), HLO.out.1.less (by omega), HLO.out.2.less (by omega), put6_below HF9.out.hb _ (Nat.le_refl _) _ _ _ _ _ _⟩
          · rw [decide_eq_false hts] at hcmp
            have HRB : Hid (readB s = false) := Lib.hid (by rw [← HRD.out.1, HMY.out, decide_eq_false hts]; rfl)
            clear hts
            generalize S ra.txt = ts at *
            go_wp2_with (first
              | (go_at_call 33; (with_reducible refine HMA.out.mono ?_); rintro e w8 ⟨rfl, hb⟩; have HB8 := Lib.hid hb; obtain ⟨k0, k1, k2, k3, k4, k5⟩ := (HF.out.below hb).cells; clear hb)
              | (go_at_call 34; (with_reducible refine (HTX.out _ HB8.out).mono ?_); rintro e w9 ⟨rfl, hb⟩; have HF8 := Lib.hid (HF.out.below (HB8.out.trans (hb.mono HB8.out.size))); obtain ⟨⟨z0, z1, z2, z3, z4, z5⟩, y0, y1, y2, y3, y4, y5⟩ := HF8.out.zero; clear hb))
            refine ractof_fin (put6_block HF8.out.res (.int .i64 0) (.string ⟨#[]⟩) (.slice none 0 0) (.slice none 0 0) (.int .i64 0) (.int .i64 0)) _ rfl rfl rfl _ ?_
            rw [read_no HRB.out, HRB.out]
            exact ⟨none, 0, 0, none, 0, 0, rfl, none_at _ 0, (fun h => absurd h (by omega)), (fun h => absurd h (by omega)), put6_below HF8.out.hb _ (Nat.le_refl _) _ _ _ _ _ _⟩
      have hK7 : K < 7 := by omega
      have hK0 : (K == 0) = false := by simpa using h0
      by_cases hn2 : (n : Int) < 2
      · have HRB : Hid (readB s = false) := Lib.hid (rA_zero (.inr ⟨by rw [← HKK.out]; exact hK7, by rw [HLE.out]; omega⟩))
        obtain ⟨⟨z0, z1, z2, z3, z4, z5⟩, y0, y1, y2, y3, y4, y5⟩ := HR7.out.zero
        clear hkb h0 h7
        go_wp2_with fail
        refine ractof_fin (put6_block HR7.out.res (.int .i64 0) (.string ⟨#[]⟩) (.slice none 0 0) (.slice none 0 0) (.int .i64 0) (.int .i64 0)) _ rfl rfl rfl _ ?_
        rw [read_no HRB.out, HRB.out]
        exact ⟨none, 0, 0, none, 0, 0, rfl, none_at _ 0, (fun h => absurd h (by omega)), (fun h => absurd h (by omega)), put6_below HR7.out.hb _ (Nat.le_refl _) _ _ _ _ _ _⟩
      obtain ⟨x, rfl, hx1⟩ := HR7.out.word (j := 1) (by omega)
      replace hx1 : wr.cell? ⟨x.block, x.off + 1, none⟩ = some (.string (S (nthL (spl s) 1))) := hx1
      have f1 := HR7.out.frz 1
      have h1n : (1 : Int) < (n : Int) := by omega
      have HNL : Hid ((nthL (spl s) 1).length ≤ maxLen) := Lib.hid (by have := nth_len s 1; unfold maxLen; omega)
      obtain ⟨nm1, hnm1⟩ : ∃ nm1, nm1 = nthL (spl s) 1 := ⟨_, rfl⟩
      rw [← hnm1] at hx1 HNL
      have HNM := Lib.hid hnm1
      clear hnm1
      go_upto_region 12 with fail
      have hf4 := HR7.out.put 1 (.string (S nm1)) (k' := K) (nm' := nm1) (bA' := none) (bn' := 0) (bc' := 0) (nA' := none) (nn' := 0) (nc' := 0) (m' := 0) (f' := 0) rfl
      generalize wr.setCell ⟨p, 1, none⟩ (.string (S nm1)) = W4 at hf4 ⊢
      have HF4 := Lib.hid hf4
      clear hf4 k0 k1 k2 k3 k4 k5 hx1 f1 HR7
      obtain ⟨k0, k1, k2, k3, k4, k5⟩ := HF4.out.cells
      have hcs : K = 1 ∨ K = 2 ∨ K = 3 ∨ K = 4 ∨ K = 5 ∨ K = 6 := by omega
      clear hkb h0 h7 hK0
      rcases hcs with rfl | rfl | rfl | rfl | rfl | rfl
      · by_cases hn3 : n = 3
        rotate_left
        · have hn3b : ((n : Int) == 3) = false := by simp; omega
          have hraE : rA s = ⟨1, nm1, [], [], 0, 0⟩ := by
            unfold rA
            rw [← HKK.out, if_neg (by rw [HLE.out]; omega), if_pos rfl, if_neg (by rw [HLE.out]; exact fun e => hn3 e.1), HNM.out]
          go_upto_region 24 with fail
          obtain ⟨ra, hra⟩ : ∃ ra, ra = rA s := ⟨_, rfl⟩
          rw [← hra] at HRD
          have HF : Hid (RA w W4 p (spl s) (some x) n ra.kind ra.name none 0 0 none 0 0 ra.mem ra.fuel) := Lib.hid (by rw [hra, hraE]; exact HF4.out)
          have HAT : Hid (ActAt W4 ra none 0 0 none 0 0) := Lib.hid (by rw [hra, hraE]; exact at_plain _ _ _ _ _ HNL.out (by omega) (by omega))
          have HLO : Hid (RLo (w.heap.size + 1) none 0 ∧ RLo (w.heap.size + 1) none 0) := Lib.hid ⟨fun h => absurd h (by omega), fun h => absurd h (by omega)⟩
          have HRA := Lib.hid hra
          clear hraE hra k0 k1 k2 k3 k4 k5
          have HMA := Lib.hid (rmayact_any W4 ra none 0 0 none 0 0 HAT.out)
          obtain ⟨k0, k1, k2, k3, k4, k5⟩ := HF.out.cells
          unfold actC at HMA
          cases hmay : ra.may with
          | false =>
            rw [hmay] at HMA
            have HRB : Hid (readB s = false) := Lib.hid (by rw [← HRD.out.1, hmay]; rfl)
            clear hmay
            go_wp2_with (go_at_call 33; (with_reducible refine HMA.out.mono ?_); rintro e w8 ⟨rfl, hb⟩; have HF8 := Lib.hid (HF.out.below hb); obtain ⟨⟨z0, z1, z2, z3, z4, z5⟩, y0, y1, y2, y3, y4, y5⟩ := HF8.out.zero; clear hb)
            refine ractof_fin (put6_block HF8.out.res (.int .i64 0) (.string ⟨#[]⟩) (.slice none 0 0) (.slice none 0 0) (.int .i64 0) (.int .i64 0)) _ rfl rfl rfl _ ?_
            rw [read_no HRB.out, HRB.out]
            exact ⟨none, 0, 0, none, 0, 0, rfl, none_at _ 0, (fun h => absurd h (by omega)), (fun h => absurd h (by omega)), put6_below HF8.out.hb _ (Nat.le_refl _) _ _ _ _ _ _⟩
          | true =>
            rw [hmay] at HMA
            have HTX := Lib.hid (fun V (hV : Below W4.heap.size W4 V) => ractText_any V ra none 0 0 none 0 0 (HAT.out.below hV) hmay (HT.out.below (HF.out.below hV).hb).t)
            unfold actC at HTX
            have HMY := Lib.hid hmay
            have hcmp := S_ne (l := ra.txt) (m := s)
            clear hmay
            by_cases hts : ra.txt = s
            · rw [decide_eq_true hts] at hcmp
              have HRB : Hid (readB s = true) := Lib.hid (by rw [← HRD.out.1, HMY.out, decide_eq_true hts]; rfl)
              clear hts
              generalize S ra.txt = ts at *
              go_wp2_with (first
                | (go_at_call 33; (with_reducible refine HMA.out.mono ?_); rintro e w8 ⟨rfl, hb⟩; have HB8 := Lib.hid hb; obtain ⟨k0, k1, k2, k3, k4, k5⟩ := (HF.out.below hb).cells; clear hb)
                | (go_at_call 34; (with_reducible refine (HTX.out _ HB8.out).mono ?_); rintro e w9 ⟨rfl, hb⟩; have HB9 := Lib.hid (HB8.out.trans (hb.mono HB8.out.size)); have HF9 := Lib.hid (HF.out.below (HB8.out.trans (hb.mono HB8.out.size))); obtain ⟨k0, k1, k2, k3, k4, k5⟩ := HF9.out.cells; obtain ⟨⟨z0, z1, z2, z3, z4, z5⟩, y0, y1, y2, y3, y4, y5⟩ := HF9.out.zero; clear hb))
              refine ractof_fin (put6_block HF9.out.res (.int .i64 ra.kind) (.string (S ra.name)) (.slice none 0 0) (.slice none 0 0) (.int .i64 ra.mem) (.int .i64 ra.fuel)) _ rfl rfl rfl _ ?_
              rw [read_yes HRB.out, HRB.out, ← HRA.out]
              exact ⟨none, 0, 0, none, 0, 0, rfl, (HAT.out.below HB9.out).keep HLO.out.1 HLO.out.2 (Nat.le_of_eq (put6_size _ _ _ _ _ _ _ _).symm) (fun z hz _ => put6_other _ _ _ _ _ _ _ _ _ (by omega)), HLO.out.1.less (by omega), HLO.out.2.less (by omega), put6_below HF9.out.hb _ (Nat.le_refl _) _ _ _ _ _ _⟩
            · rw [decide_eq_false hts] at hcmp
              have HRB : Hid (readB s = false) := Lib.hid (by rw [← HRD.out.1, HMY.out, decide_eq_false hts]; rfl)
              clear hts
              generalize S ra.txt = ts at *
              go_wp2_with (first
                | (go_at_call 33; (with_reducible refine HMA.out.mono ?_); rintro e w8 ⟨rfl, hb⟩; have HB8 := Lib.hid hb; obtain ⟨k0, k1, k2, k3, k4, k5⟩ := (HF.out.below hb).cells; clear hb)
                | (go_at_call 34; (with_reducible refine (HTX.out _ HB8.out).mono ?_); rintro e w9 ⟨rfl, hb⟩; have HF8 := Lib.hid (HF.out.below (HB8.out.trans (hb.mono HB8.out.size))); obtain ⟨⟨z0, z1, z2, z3, z4, z5⟩, y0, y1, y2, y3, y4, y5⟩ := HF8.out.zero; clear hb))
              refine ractof_fin (put6_block HF8.out.res (.int .i64 0) (.string ⟨#[]⟩) (.slice none 0 0) (.slice none 0 0) (.int .i64 0) (.int .i64 0)) _ rfl rfl rfl _ ?_
              rw [read_no HRB.out, HRB.out]
              exact ⟨none, 0, 0, none, 0, 0, rfl, none_at _ 0, (fun h => absurd h (by omega)), (fun h => absurd h (by omega)), put6_below HF8.out.hb _ (Nat.le_refl _) _ _ _ _ _ _⟩
        subst hn3
        obtain ⟨x2, hx2e, hx2⟩ := HF4.out.word (j := 2) (by omega)
        cases hx2e
        replace hx2 : W4.cell? ⟨x.block, x.off + 2, none⟩ = some (.string (S (nthL (spl s) 2))) := hx2
        have hcd := S_ne (l := nthL (spl s) 2) (m := [45])
        by_cases hd : nthL (spl s) 2 = [45]
        · rw [decide_eq_true hd] at hcd
          have hcd2 : ((S (nthL (spl s) 2)).toList == ([45] : List UInt8)) = true := by rw [← hcd]; rw [ByteArray.toList_eq (bs := S [45])]; rfl
          have HD := Lib.hid hd
          clear hd hcd
          have hraE : rA s = ⟨1, nm1, [], [], 0, 0⟩ := by
            unfold rA
            rw [← HKK.out, if_neg (by rw [HLE.out]; omega), if_pos rfl, if_neg (fun e => e.2 HD.out), HNM.out]
          go_upto_region 24 with fail
          obtain ⟨ra, hra⟩ : ∃ ra, ra = rA s := ⟨_, rfl⟩
          rw [← hra] at HRD
          have HF : Hid (RA w W4 p (spl s) (some x) 3 ra.kind ra.name none 0 0 none 0 0 ra.mem ra.fuel) := Lib.hid (by rw [hra, hraE]; exact HF4.out)
          have HAT : Hid (ActAt W4 ra none 0 0 none 0 0) := Lib.hid (by rw [hra, hraE]; exact at_plain _ _ _ _ _ HNL.out (by omega) (by omega))
          have HLO : Hid (RLo (w.heap.size + 1) none 0 ∧ RLo (w.heap.size + 1) none 0) := Lib.hid ⟨fun h => absurd h (by omega), fun h => absurd h (by omega)⟩
          have HRA := Lib.hid hra
          clear hraE hra k0 k1 k2 k3 k4 k5
          have HMA := Lib.hid (rmayact_any W4 ra none 0 0 none 0 0 HAT.out)
          obtain ⟨k0, k1, k2, k3, k4, k5⟩ := HF.out.cells
          unfold actC at HMA
          cases hmay : ra.may with
          | false =>
            rw [hmay] at HMA
            have HRB : Hid (readB s = false) := Lib.hid (by rw [← HRD.out.1, hmay]; rfl)
            clear hmay
            go_wp2_with (go_at_call 33; (with_reducible refine HMA.out.mono ?_); rintro e w8 ⟨rfl, hb⟩; have HF8 := Lib.hid (HF.out.below hb); obtain ⟨⟨z0, z1, z2, z3, z4, z5⟩, y0, y1, y2, y3, y4, y5⟩ := HF8.out.zero; clear hb)
            refine ractof_fin (put6_block HF8.out.res (.int .i64 0) (.string ⟨#[]⟩) (.slice none 0 0) (.slice none 0 0) (.int .i64 0) (.int .i64 0)) _ rfl rfl rfl _ ?_
            rw [read_no HRB.out, HRB.out]
            exact ⟨none, 0, 0, none, 0, 0, rfl, none_at _ 0, (fun h => absurd h (by omega)), (fun h => absurd h (by omega)), put6_below HF8.out.hb _ (Nat.le_refl _) _ _ _ _ _ _⟩
          | true =>
            rw [hmay] at HMA
            have HTX := Lib.hid (fun V (hV : Below W4.heap.size W4 V) => ractText_any V ra none 0 0 none 0 0 (HAT.out.below hV) hmay (HT.out.below (HF.out.below hV).hb).t)
            unfold actC at HTX
            have HMY := Lib.hid hmay
            have hcmp := S_ne (l := ra.txt) (m := s)
            clear hmay
            by_cases hts : ra.txt = s
            · rw [decide_eq_true hts] at hcmp
              have HRB : Hid (readB s = true) := Lib.hid (by rw [← HRD.out.1, HMY.out, decide_eq_true hts]; rfl)
              clear hts
              generalize S ra.txt = ts at *
              go_wp2_with (first
                | (go_at_call 33; (with_reducible refine HMA.out.mono ?_); rintro e w8 ⟨rfl, hb⟩; have HB8 := Lib.hid hb; obtain ⟨k0, k1, k2, k3, k4, k5⟩ := (HF.out.below hb).cells; clear hb)
                | (go_at_call 34; (with_reducible refine (HTX.out _ HB8.out).mono ?_); rintro e w9 ⟨rfl, hb⟩; have HB9 := Lib.hid (HB8.out.trans (hb.mono HB8.out.size)); have HF9 := Lib.hid (HF.out.below (HB8.out.trans (hb.mono HB8.out.size))); obtain ⟨k0, k1, k2, k3, k4, k5⟩ := HF9.out.cells; obtain ⟨⟨z0, z1, z2, z3, z4, z5⟩, y0, y1, y2, y3, y4, y5⟩ := HF9.out.zero; clear hb))
              refine ractof_fin (put6_block HF9.out.res (.int .i64 ra.kind) (.string (S ra.name)) (.slice none 0 0) (.slice none 0 0) (.int .i64 ra.mem) (.int .i64 ra.fuel)) _ rfl rfl rfl _ ?_
              rw [read_yes HRB.out, HRB.out, ← HRA.out]
              exact ⟨none, 0, 0, none, 0, 0, rfl, (HAT.out.below HB9.out).keep HLO.out.1 HLO.out.2 (Nat.le_of_eq (put6_size _ _ _ _ _ _ _ _).symm) (fun z hz _ => put6_other _ _ _ _ _ _ _ _ _ (by omega)), HLO.out.1.less (by omega), HLO.out.2.less (by omega), put6_below HF9.out.hb _ (Nat.le_refl _) _ _ _ _ _ _⟩
            · rw [decide_eq_false hts] at hcmp
              have HRB : Hid (readB s = false) := Lib.hid (by rw [← HRD.out.1, HMY.out, decide_eq_false hts]; rfl)
              clear hts
              generalize S ra.txt = ts at *
              go_wp2_with (first
                | (go_at_call 33; (with_reducible refine HMA.out.mono ?_); rintro e w8 ⟨rfl, hb⟩; have HB8 := Lib.hid hb; obtain ⟨k0, k1, k2, k3, k4, k5⟩ := (HF.out.below hb).cells; clear hb)
                | (go_at_call 34; (with_reducible refine (HTX.out _ HB8.out).mono ?_); rintro e w9 ⟨rfl, hb⟩; have HF8 := Lib.hid (HF.out.below (HB8.out.trans (hb.mono HB8.out.size))); obtain ⟨⟨z0, z1, z2, z3, z4, z5⟩, y0, y1, y2, y3, y4, y5⟩ := HF8.out.zero; clear hb))
              refine ractof_fin (put6_block HF8.out.res (.int .i64 0) (.string ⟨#[]⟩) (.slice none 0 0) (.slice none 0 0) (.int .i64 0) (.int .i64 0)) _ rfl rfl rfl _ ?_
              rw [read_no HRB.out, HRB.out]
              exact ⟨none, 0, 0, none, 0, 0, rfl, none_at _ 0, (fun h => absurd h (by omega)), (fun h => absurd h (by omega)), put6_below HF8.out.hb _ (Nat.le_refl _) _ _ _ _ _ _⟩
        rw [decide_eq_false hd] at hcd
        have hcd2 : ((S (nthL (spl s) 2)).toList == ([45] : List UInt8)) = false := by rw [← hcd]; rw [ByteArray.toList_eq (bs := S [45])]; rfl
        have HD := Lib.hid hd
        have HW2 : Hid (∀ (V : World) (bA : Option Addr) (bn bc : Nat), RA w V p (spl s) (some x) 3 1 nm1 bA bn bc none 0 0 0 0 → V.cell? ⟨x.block, x.off + 2, none⟩ = some (.string (S (nthL (spl s) 2)))) := Lib.hid fun V bA bn bc hV => by
          obtain ⟨y, e, h1⟩ := hV.word (j := 2) (by omega)
          cases e
          exact h1
        obtain ⟨w2, hw2⟩ : ∃ w2, w2 = nthL (spl s) 2 := ⟨_, rfl⟩
        have hl2 : w2.length ≤ 1000000 := by rw [hw2]; have := nth_len s 2; omega
        obtain ⟨bz, hbz⟩ : ∃ bz, bz = ofHx w2 := ⟨_, rfl⟩
        have hraE : rA s = ⟨1, nm1, bz, [], 0, 0⟩ := by
          unfold rA
          rw [← HKK.out, if_neg (by rw [HLE.out]; omega), if_pos rfl, if_pos ⟨HLE.out, HD.out⟩, HNM.out, hbz, hw2]
        have HRE := Lib.hid hraE
        have HBL : Hid (bz.length = w2.length / 2) := Lib.hid (by rw [hbz, ofHx_len2])
        have HBG : Hid (∀ j a b, w2[2 * j]? = some a → w2[2 * j + 1]? = some b → bz[j]? = some ((hv a * 16 + hv b : Nat) : Int)) := Lib.hid (by rw [hbz]; exact ofHx_get w2)
        have HBB : Hid (∀ y ∈ bz, 0 ≤ y ∧ y < 256) := Lib.hid (by rw [hbz]; exact ofHx_bytes w2)
        rw [← hw2] at hx2 hcd2 HW2
        have HSS : Hid (∀ j (h : j < w2.length) (h2 : j < (S w2).size), (S w2)[j]'h2 = w2[j]'h) := Lib.hid fun j h h2 => rfl
        have hsz := S_size w2
        obtain ⟨sw2, hsw2⟩ : ∃ sw2, sw2 = S w2 := ⟨_, rfl⟩
        rw [← hsw2] at hx2 hcd2 HW2 hsz
        have HSS2 : Hid (∀ j (h : j < w2.length) (h2 : j < sw2.size), sw2[j]'h2 = w2[j]'h) := Lib.hid (by subst hsw2; exact HSS.out)
        obtain ⟨iu, hiu, hu0, hu1, hu2⟩ := info_parts hx_infoU8
        clear hraE hbz hw2 hsw2 HSS hcd hd
        go_wp2_with fail
        go_loopw [7] (fun iv wr2 => ∃ (i j : Nat) (bA : Option Addr) (bc : Nat), i = 2 * j ∧ i ≤ w2.length ∧ iv = .int .i64 (i : Int) ∧ Hid (RA w wr2 p (spl s) (some x) 3 1 nm1 bA j bc none 0 0 0 0) ∧ Hid (wr2.ownsRow (p + 1) 5 1 (.slice bA j bc) j (valsOf .u8 (bz.take j)))) (fun iv _ => w2.length - (intOf iv).toNat)
        case atStart => exact ⟨0, 0, none, 0, rfl, Nat.zero_le _, rfl, HF4, Lib.hid (World.ownsRow_nil _ _ _ _)⟩
        case round =>
          obtain ⟨i, j, bA, bc, hij, hil, rfl, HRJ, HOR⟩ := hrel
          clear k0 k1 k2 k3 k4 k5 hx2
          obtain ⟨k0, k1, k2, k3, k4, k5⟩ := HRJ.out.cells
          have hx2 := HW2.out _ _ _ _ HRJ.out
          have hwi : IntKind.i64.wrap ((i : Int) + 1) = (i : Int) + 1 := by rw [IntKind.wrap_i64]; omega
          by_cases hlt : i + 1 < w2.length
          · have hltI : (i : Int) + 1 < (w2.length : Int) := by omega
            obtain ⟨e0, he0⟩ : ∃ e0, e0 = w2[i] := ⟨_, rfl⟩
            obtain ⟨e1, he1⟩ : ∃ e1, e1 = w2[i + 1] := ⟨_, rfl⟩
            have hq0 : i < sw2.size := by omega
            have hq1 : i + 1 < sw2.size := by omega
            have g0 := HSS2.out i (by omega) hq0
            have g1 := HSS2.out (i + 1) hlt hq1
            rw [← he0] at g0
            rw [← he1] at g1
            have HRI0 : Hid (∀ V : World, (Instr.index 9 (.string sw2) (.int .i64 (i : Int))).run Tryz.prog V = .ok (.int .u8 (e0.toNat : Int)) V) := Lib.hid fun V => idx_run sw2 i hq0 e0 g0 V
            have HRI1 : Hid (∀ V : World, (Instr.index 9 (.string sw2) (.int .i64 ((i : Int) + 1))).run Tryz.prog V = .ok (.int .u8 (e1.toNat : Int)) V) := Lib.hid fun V => by
              have h := idx_run sw2 (i + 1) hq1 e1 g1 V
              rwa [show ((i + 1 : Nat) : Int) = (i : Int) + 1 by omega] at h
            have h16 := hv_lt2 e0
            have h17 := hv_lt2 e1
            have HWR : Hid (IntKind.u8.wrap (16 * ((hv e0 : Nat) : Int)) = 16 * ((hv e0 : Nat) : Int) ∧ IntKind.i64.wrap ((i : Int) + 1) = (i : Int) + 1 ∧ IntKind.u8.wrap (16 * ((hv e0 : Nat) : Int) + ((hv e1 : Nat) : Int)) = 16 * ((hv e0 : Nat) : Int) + ((hv e1 : Nat) : Int)) := Lib.hid ⟨by rw [IntKind.wrap_u8]; omega, hwi, by rw [IntKind.wrap_u8]; omega⟩
            have HTK : Hid (valsOf .u8 (bz.take (j + 1)) = valsOf .u8 (bz.take j) ++ [.int .u8 (16 * ((hv e0 : Nat) : Int) + ((hv e1 : Nat) : Int))]) := Lib.hid (by
              have h := HBG.out j e0 e1 (by rw [← hij, he0]; exact List.getElem?_eq_getElem (by omega)) (by rw [← hij, he1]; exact List.getElem?_eq_getElem hlt)
              rw [List.take_add_one, h]
              unfold valsOf
              rw [List.map_append]
              congr 1
              show [Value.int .u8 ((hv e0 * 16 + hv e1 : Nat) : Int)] = _
              congr 2
              omega)
            have HI : Hid (i = 2 * j ∧ i + 1 < w2.length) := Lib.hid ⟨hij, hlt⟩
            have hj : j ≤ 1000000 := by omega
            go_upto_region 16 with fail
            rw [show decide (2 * (j : Int) + 1 < (w2.length : Int)) = true by simp; omega]
            clear hij hil hlt he0 he1 hq0 hq1 g0 g1 h16 h17 k0 k1 k2 k3 k4 k5 hx2 hwi hltI
            refine wp_region_inv' 21 rfl (fun L a' w' => ∃ y0 y1 y2 y3 y4 y5 y6 y7 y8 y9 y10 y11 y12 y13 y14 y15 y16 y17 y18 y19 : Value, a' = { tmps := List.toArray ((.string (S s)) :: undef :: (.pointer (some ⟨w.heap.size, 0, none⟩)) :: (.bool false) :: (.slice (some x) 3 c) :: (.pointer (some ⟨p, 0, none⟩)) :: (.int .i64 7) :: (.int .i64 (i : Int)) :: (.string (S s)) :: (.slice (some x) 3 c) :: (.int .i64 7) :: (.bool false) :: u12 :: u13 :: u14 :: u15 :: u16 :: u17 :: u18 :: u19 :: u20 :: u21 :: u22 :: u23 :: u24 :: (.pointer (some ⟨p, 0, none⟩)) :: (.int .i64 1) :: (.bool false) :: (.bool false) :: (.pointer (some ⟨p, 0, none⟩)) :: (.int .i64 1) :: (.bool true) :: (.bool true) :: (.slice (some x) 3 c) :: (.int .i64 3) :: (.bool false) :: (.bool false) :: (.bool false) :: undef :: (.pointer (some ⟨p, 0, none⟩)) :: (.int .i64 1) :: (.bool true) :: (.slice (some x) 3 c) :: (.pointer (some ⟨x.block, x.off + 1, none⟩)) :: (.string (S nm1)) :: (.pointer (some ⟨p, 1, none⟩)) :: (.bool true) :: (.pointer (some ⟨p, 0, none⟩)) :: (.int .i64 1) :: (.bool true) :: (.bool true) :: (.slice (some x) 3 c) :: (.int .i64 3) :: (.bool true) :: (.bool true) :: (.bool true) :: (.slice (some x) 3 c) :: (.pointer (some ⟨x.block, x.off + 2, none⟩)) :: (.string sw2) :: (.bool true) :: (.bool true) :: (.int .i64 (i : Int)) :: (.int .i64 (2 * (j : Int) + 1)) :: (.slice (some x) 3 c) :: (.pointer (some ⟨x.block, x.off + 2, none⟩)) :: (.string sw2) :: (.int .i64 (w2.length : Int)) :: (.bool true) :: u68 :: u69 :: y0 :: y1 :: y2 :: y3 :: y4 :: y5 :: y6 :: y7 :: y8 :: y9 :: y10 :: y11 :: y12 :: y13 :: y14 :: y15 :: y16 :: y17 :: y18 :: y19 :: undef :: undef :: undef :: undef :: undef :: undef :: undef :: undef :: undef :: undef :: undef :: undef :: undef :: undef :: undef :: undef :: undef :: undef :: undef :: undef :: undef :: undef :: undef :: undef :: undef :: undef :: undef :: undef :: undef :: undef :: undef :: undef :: undef :: undef :: undef :: undef :: undef :: undef :: undef :: undef :: undef :: undef :: undef :: undef :: undef :: undef :: undef :: undef :: undef :: undef :: undef :: undef :: undef :: undef :: undef :: undef :: undef :: undef :: undef :: undef :: undef :: undef :: undef :: undef :: undef :: undef :: undef :: undef :: undef :: undef :: []), defers := [] } ∧ (L 0 = true → y0 = .pointer (some ⟨p, 2, none⟩)) ∧ (L 1 = true → y1 = .slice bA j bc) ∧ (L 2 = true → y2 = .slice (some x) 3 c) ∧ (L 3 = true → y3 = .pointer (some ⟨x.block, x.off + 2, none⟩)) ∧ (L 4 = true → y4 = .string sw2) ∧ (L 5 = true → y5 = .int .i64 (i : Int)) ∧ (L 6 = true → y6 = .int .u8 (e0.toNat : Int)) ∧ (L 7 = true → y7 = .int .u8 ((hv e0 : Nat) : Int)) ∧ (L 8 = true → y8 = .int .u8 (16 * ((hv e0 : Nat) : Int))) ∧ (L 9 = true → y9 = .slice (some x) 3 c) ∧ (L 10 = true → y10 = .pointer (some ⟨x.block, x.off + 2, none⟩)) ∧ (L 11 = true → y11 = .string sw2) ∧ (L 12 = true → y12 = .int .i64 (i : Int)) ∧ (L 13 = true → y13 = .int .i64 ((i : Int) + 1)) ∧ (L 14 = true → y14 = .int .u8 (e1.toNat : Int)) ∧ (L 15 = true → y15 = .int .u8 ((hv e1 : Nat) : Int)) ∧ (L 16 = true → y16 = .int .u8 (16 * ((hv e0 : Nat) : Int) + ((hv e1 : Nat) : Int))) ∧ (L 17 = true → ∃ g, y17 = .slice (some ⟨g, 0, none⟩) 1 1) ∧ (L 18 = true → ∃ g cap, y18 = .slice (some ⟨g, 0, none⟩) (j + 1) cap) ∧ (L 19 = true → y19 = .pointer (some ⟨p, 2, none⟩)) ∧ (L 20 = false → RA w w' p (spl s) (some x) 3 1 nm1 bA j bc none 0 0 0 0) ∧ (L 18 = false → Below wr.heap.size wr w') ∧ (L 17 = true → L 18 = false → ∀ g, y17 = .slice (some ⟨g, 0, none⟩) 1 1 → w'.heap[g]? = some (.cells #[.int .u8 (16 * ((hv e0 : Nat) : Int) + ((hv e1 : Nat) : Int))] 5 (0, 0))) ∧ (L 18 = true → ∀ g cap, y18 = .slice (some ⟨g, 0, none⟩) (j + 1) cap → w'.ownsRow (p + 1) 5 1 (.slice (some ⟨g, 0, none⟩) (j + 1) cap) (j + 1) (valsOf .u8 (bz.take j) ++ [.int .u8 (16 * ((hv e0 : Nat) : Int) + ((hv e1 : Nat) : Int))])) ∧ (L 20 = true → ∃ g cap, RA w w' p (spl s) (some x) 3 1 nm1 (some ⟨g, 0, none⟩) (j + 1) cap none 0 0 0 0 ∧ w'.ownsRow (p + 1) 5 1 (.slice (some ⟨g, 0, none⟩) (j + 1) cap) (j + 1) (valsOf .u8 (bz.take j) ++ [.int .u8 (16 * ((hv e0 : Nat) : Int) + ((hv e1 : Nat) : Int))]))) (by kernel_rfl) (by kernel_rfl) ?h0 ?step ?fin
            case h0 => exact ⟨u70, u71, u72, u73, u74, u75, u76, u77, u78, u79, u80, u81, u82, u83, u84, u85, u86, u87, u88, u89, rfl, (fun e => by simp at e), (fun e => by simp at e), (fun e => by simp at e), (fun e => by simp at e), (fun e => by simp at e), (fun e => by simp at e), (fun e => by simp at e), (fun e => by simp at e), (fun e => by simp at e), (fun e => by simp at e), (fun e => by simp at e), (fun e => by simp at e), (fun e => by simp at e), (fun e => by simp at e), (fun e => by simp at e), (fun e => by simp at e), (fun e => by simp at e), (fun e => by simp at e), (fun e => by simp at e), (fun e => by simp at e), (fun _ => HRJ.out.below (Below.refl _ _).drew), (fun _ => (Below.refl _ _).drew), (fun e => by simp at e), (fun e => by simp at e), (fun e => by simp at e)⟩
            case step =>
              rintro i hi L a' w' hLi hcl hdp ⟨y0, y1, y2, y3, y4, y5, y6, y7, y8, y9, y10, y11, y12, y13, y14, y15, y16, y17, y18, y19, rfl, e0, e1, e2, e3, e4, e5, e6, e7, e8, e9, e10, e11, e12, e13, e14, e15, e16, e17, e18, e19, hw0, hw1, hw2, hw3, hw4⟩
              have hi2 : i = 0 ∨ i = 1 ∨ i = 2 ∨ i = 3 ∨ i = 4 ∨ i = 5 ∨ i = 6 ∨ i = 7 ∨ i = 8 ∨ i = 9 ∨ i = 10 ∨ i = 11 ∨ i = 12 ∨ i = 13 ∨ i = 14 ∨ i = 15 ∨ i = 16 ∨ i = 17 ∨ i = 18 ∨ i = 19 ∨ i = 20 := by omega
              rcases hi2 with rfl | rfl | rfl | rfl | rfl | rfl | rfl | rfl | rfl | rfl | rfl | rfl | rfl | rfl | rfl | rfl | rfl | rfl | rfl | rfl | rfl
              · have HF0 := Lib.hid hw0; have HF1 := Lib.hid hw1; have HF2 := Lib.hid hw2; have HF3 := Lib.hid hw3; have HF4 := Lib.hid hw4
                have E1 := Lib.hid e1; have E2 := Lib.hid e2; have E3 := Lib.hid e3; have E4 := Lib.hid e4; have E5 := Lib.hid e5; have E6 := Lib.hid e6; have E7 := Lib.hid e7; have E8 := Lib.hid e8; have E9 := Lib.hid e9; have E10 := Lib.hid e10; have E11 := Lib.hid e11; have E12 := Lib.hid e12; have E13 := Lib.hid e13; have E14 := Lib.hid e14; have E15 := Lib.hid e15; have E16 := Lib.hid e16; have E17 := Lib.hid e17; have E18 := Lib.hid e18; have E19 := Lib.hid e19
                clear e0 e1 e2 e3 e4 e5 e6 e7 e8 e9 e10 e11 e12 e13 e14 e15 e16 e17 e18 e19 hw0 hw1 hw2 hw3 hw4
                refine wpOp_step rfl (fun K hK => ?_)
                go_simp
                exact hK _ _ ⟨_, _, _, _, _, _, _, _, _, _, _, _, _, _, _, _, _, _, _, _, rfl, (fun _ => rfl), (fun h => E1.out (by simpa [upOn] using h)), (fun h => E2.out (by simpa [upOn] using h)), (fun h => E3.out (by simpa [upOn] using h)), (fun h => E4.out (by simpa [upOn] using h)), (fun h => E5.out (by simpa [upOn] using h)), (fun h => E6.out (by simpa [upOn] using h)), (fun h => E7.out (by simpa [upOn] using h)), (fun h => E8.out (by simpa [upOn] using h)), (fun h => E9.out (by simpa [upOn] using h)), (fun h => E10.out (by simpa [upOn] using h)), (fun h => E11.out (by simpa [upOn] using h)), (fun h => E12.out (by simpa [upOn] using h)), (fun h => E13.out (by simpa [upOn] using h)), (fun h => E14.out (by simpa [upOn] using h)), (fun h => E15.out (by simpa [upOn] using h)), (fun h => E16.out (by simpa [upOn] using h)), (fun h => E17.out (by simpa [upOn] using h)), (fun h => E18.out (by simpa [upOn] using h)), (fun h => E19.out (by simpa [upOn] using h)), (fun h0 => HF0.out (by simpa [upOn] using h0)), (fun h0 => HF1.out (by simpa [upOn] using h0)), (fun h0 h1 => HF2.out (by simpa [upOn] using h0) (by simpa [upOn] using h1)), (fun h0 => HF3.out (by simpa [upOn] using h0)), (fun h0 => HF4.out (by simpa [upOn] using h0))⟩
              · have HF0 := Lib.hid hw0; have HF1 := Lib.hid hw1; have HF2 := Lib.hid hw2; have HF3 := Lib.hid hw3; have HF4 := Lib.hid hw4
                have l0 := (hdp 0 (by kernel_rfl))
                have l20 : L 20 = false := by
                  cases h : L 20
                  · rfl
                  · exact absurd (hcl 18 1 (hcl 20 18 h (by kernel_rfl)) (by kernel_rfl)) (by rw [hLi]; decide)
                obtain rfl := e0 l0
                have E2 := Lib.hid e2; have E3 := Lib.hid e3; have E4 := Lib.hid e4; have E5 := Lib.hid e5; have E6 := Lib.hid e6; have E7 := Lib.hid e7; have E8 := Lib.hid e8; have E9 := Lib.hid e9; have E10 := Lib.hid e10; have E11 := Lib.hid e11; have E12 := Lib.hid e12; have E13 := Lib.hid e13; have E14 := Lib.hid e14; have E15 := Lib.hid e15; have E16 := Lib.hid e16; have E17 := Lib.hid e17; have E18 := Lib.hid e18; have E19 := Lib.hid e19
                clear e0 e1 e2 e3 e4 e5 e6 e7 e8 e9 e10 e11 e12 e13 e14 e15 e16 e17 e18 e19 hw0 hw1 hw2 hw3 hw4
                have hR := HF0.out l20
                obtain ⟨-, -, q2, -⟩ := hR.cells
                clear hR
                refine wpOp_step rfl (fun K hK => ?_)
                go_simp
                exact hK _ _ ⟨_, _, _, _, _, _, _, _, _, _, _, _, _, _, _, _, _, _, _, _, rfl, (fun _ => rfl), (fun _ => rfl), (fun h => E2.out (by simpa [upOn] using h)), (fun h => E3.out (by simpa [upOn] using h)), (fun h => E4.out (by simpa [upOn] using h)), (fun h => E5.out (by simpa [upOn] using h)), (fun h => E6.out (by simpa [upOn] using h)), (fun h => E7.out (by simpa [upOn] using h)), (fun h => E8.out (by simpa [upOn] using h)), (fun h => E9.out (by simpa [upOn] using h)), (fun h => E10.out (by simpa [upOn] using h)), (fun h => E11.out (by simpa [upOn] using h)), (fun h => E12.out (by simpa [upOn] using h)), (fun h => E13.out (by simpa [upOn] using h)), (fun h => E14.out (by simpa [upOn] using h)), (fun h => E15.out (by simpa [upOn] using h)), (fun h => E16.out (by simpa [upOn] using h)), (fun h => E17.out (by simpa [upOn] using h)), (fun h => E18.out (by simpa [upOn] using h)), (fun h => E19.out (by simpa [upOn] using h)), (fun h0 => HF0.out (by simpa [upOn] using h0)), (fun h0 => HF1.out (by simpa [upOn] using h0)), (fun h0 h1 => HF2.out (by simpa [upOn] using h0) (by simpa [upOn] using h1)), (fun h0 => HF3.out (by simpa [upOn] using h0)), (fun h0 => HF4.out (by simpa [upOn] using h0))⟩
              · have HF0 := Lib.hid hw0; have HF1 := Lib.hid hw1; have HF2 := Lib.hid hw2; have HF3 := Lib.hid hw3; have HF4 := Lib.hid hw4
                have E0 := Lib.hid e0; have E1 := Lib.hid e1; have E3 := Lib.hid e3; have E4 := Lib.hid e4; have E5 := Lib.hid e5; have E6 := Lib.hid e6; have E7 := Lib.hid e7; have E8 := Lib.hid e8; have E9 := Lib.hid e9; have E10 := Lib.hid e10; have E11 := Lib.hid e11; have E12 := Lib.hid e12; have E13 := Lib.hid e13; have E14 := Lib.hid e14; have E15 := Lib.hid e15; have E16 := Lib.hid e16; have E17 := Lib.hid e17; have E18 := Lib.hid e18; have E19 := Lib.hid e19
                clear e0 e1 e2 e3 e4 e5 e6 e7 e8 e9 e10 e11 e12 e13 e14 e15 e16 e17 e18 e19 hw0 hw1 hw2 hw3 hw4
                refine wpOp_step rfl (fun K hK => ?_)
                go_simp
                exact hK _ _ ⟨_, _, _, _, _, _, _, _, _, _, _, _, _, _, _, _, _, _, _, _, rfl, (fun h => E0.out (by simpa [upOn] using h)), (fun h => E1.out (by simpa [upOn] using h)), (fun _ => rfl), (fun h => E3.out (by simpa [upOn] using h)), (fun h => E4.out (by simpa [upOn] using h)), (fun h => E5.out (by simpa [upOn] using h)), (fun h => E6.out (by simpa [upOn] using h)), (fun h => E7.out (by simpa [upOn] using h)), (fun h => E8.out (by simpa [upOn] using h)), (fun h => E9.out (by simpa [upOn] using h)), (fun h => E10.out (by simpa [upOn] using h)), (fun h => E11.out (by simpa [upOn] using h)), (fun h => E12.out (by simpa [upOn] using h)), (fun h => E13.out (by simpa [upOn] using h)), (fun h => E14.out (by simpa [upOn] using h)), (fun h => E15.out (by simpa [upOn] using h)), (fun h => E16.out (by simpa [upOn] using h)), (fun h => E17.out (by simpa [upOn] using h)), (fun h => E18.out (by simpa [upOn] using h)), (fun h => E19.out (by simpa [upOn] using h)), (fun h0 => HF0.out (by simpa [upOn] using h0)), (fun h0 => HF1.out (by simpa [upOn] using h0)), (fun h0 h1 => HF2.out (by simpa [upOn] using h0) (by simpa [upOn] using h1)), (fun h0 => HF3.out (by simpa [upOn] using h0)), (fun h0 => HF4.out (by simpa [upOn] using h0))⟩
              · have HF0 := Lib.hid hw0; have HF1 := Lib.hid hw1; have HF2 := Lib.hid hw2; have HF3 := Lib.hid hw3; have HF4 := Lib.hid hw4
                have l2 := (hdp 2 (by kernel_rfl))
                obtain rfl := e2 l2
                have E0 := Lib.hid e0; have E1 := Lib.hid e1; have E4 := Lib.hid e4; have E5 := Lib.hid e5; have E6 := Lib.hid e6; have E7 := Lib.hid e7; have E8 := Lib.hid e8; have E9 := Lib.hid e9; have E10 := Lib.hid e10; have E11 := Lib.hid e11; have E12 := Lib.hid e12; have E13 := Lib.hid e13; have E14 := Lib.hid e14; have E15 := Lib.hid e15; have E16 := Lib.hid e16; have E17 := Lib.hid e17; have E18 := Lib.hid e18; have E19 := Lib.hid e19
                clear e0 e1 e2 e3 e4 e5 e6 e7 e8 e9 e10 e11 e12 e13 e14 e15 e16 e17 e18 e19 hw0 hw1 hw2 hw3 hw4
                have n2 : (2 : Int) < 3 := by omega
                refine wpOp_step rfl (fun K hK => ?_)
                go_simp
                exact hK _ _ ⟨_, _, _, _, _, _, _, _, _, _, _, _, _, _, _, _, _, _, _, _, rfl, (fun h => E0.out (by simpa [upOn] using h)), (fun h => E1.out (by simpa [upOn] using h)), (fun _ => rfl), (fun _ => rfl), (fun h => E4.out (by simpa [upOn] using h)), (fun h => E5.out (by simpa [upOn] using h)), (fun h => E6.out (by simpa [upOn] using h)), (fun h => E7.out (by simpa [upOn] using h)), (fun h => E8.out (by simpa [upOn] using h)), (fun h => E9.out (by simpa [upOn] using h)), (fun h => E10.out (by simpa [upOn] using h)), (fun h => E11.out (by simpa [upOn] using h)), (fun h => E12.out (by simpa [upOn] using h)), (fun h => E13.out (by simpa [upOn] using h)), (fun h => E14.out (by simpa [upOn] using h)), (fun h => E15.out (by simpa [upOn] using h)), (fun h => E16.out (by simpa [upOn] using h)), (fun h => E17.out (by simpa [upOn] using h)), (fun h => E18.out (by simpa [upOn] using h)), (fun h => E19.out (by simpa [upOn] using h)), (fun h0 => HF0.out (by simpa [upOn] using h0)), (fun h0 => HF1.out (by simpa [upOn] using h0)), (fun h0 h1 => HF2.out (by simpa [upOn] using h0) (by simpa [upOn] using h1)), (fun h0 => HF3.out (by simpa [upOn] using h0)), (fun h0 => HF4.out (by simpa [upOn] using h0))⟩
              · have HF0 := Lib.hid hw0; have HF1 := Lib.hid hw1; have HF2 := Lib.hid hw2; have HF3 := Lib.hid hw3; have HF4 := Lib.hid hw4
                have l3 := (hdp 3 (by kernel_rfl))
                have l20 : L 20 = false := by
                  cases h : L 20
                  · rfl
                  · exact absurd (hcl 6 4 (hcl 7 6 (hcl 8 7 (hcl 16 8 (hcl 17 16 (hcl 18 17 (hcl 20 18 h (by kernel_rfl)) (by kernel_rfl)) (by kernel_rfl)) (by kernel_rfl)) (by kernel_rfl)) (by kernel_rfl)) (by kernel_rfl)) (by rw [hLi]; decide)
                obtain rfl := e3 l3
                have E0 := Lib.hid e0; have E1 := Lib.hid e1; have E2 := Lib.hid e2; have E5 := Lib.hid e5; have E6 := Lib.hid e6; have E7 := Lib.hid e7; have E8 := Lib.hid e8; have E9 := Lib.hid e9; have E10 := Lib.hid e10; have E11 := Lib.hid e11; have E12 := Lib.hid e12; have E13 := Lib.hid e13; have E14 := Lib.hid e14; have E15 := Lib.hid e15; have E16 := Lib.hid e16; have E17 := Lib.hid e17; have E18 := Lib.hid e18; have E19 := Lib.hid e19
                clear e0 e1 e2 e3 e4 e5 e6 e7 e8 e9 e10 e11 e12 e13 e14 e15 e16 e17 e18 e19 hw0 hw1 hw2 hw3 hw4
                have wx := HW2.out _ _ _ _ (HF0.out l20)
                refine wpOp_step rfl (fun K hK => ?_)
                go_simp
                exact hK _ _ ⟨_, _, _, _, _, _, _, _, _, _, _, _, _, _, _, _, _, _, _, _, rfl, (fun h => E0.out (by simpa [upOn] using h)), (fun h => E1.out (by simpa [upOn] using h)), (fun h => E2.out (by simpa [upOn] using h)), (fun _ => rfl), (fun _ => rfl), (fun h => E5.out (by simpa [upOn] using h)), (fun h => E6.out (by simpa [upOn] using h)), (fun h => E7.out (by simpa [upOn] using h)), (fun h => E8.out (by simpa [upOn] using h)), (fun h => E9.out (by simpa [upOn] using h)), (fun h => E10.out (by simpa [upOn] using h)), (fun h => E11.out (by simpa [upOn] using h)), (fun h => E12.out (by simpa [upOn] using h)), (fun h => E13.out (by simpa [upOn] using h)), (fun h => E14.out (by simpa [upOn] using h)), (fun h => E15.out (by simpa [upOn] using h)), (fun h => E16.out (by simpa [upOn] using h)), (fun h => E17.out (by simpa [upOn] using h)), (fun h => E18.out (by simpa [upOn] using h)), (fun h => E19.out (by simpa [upOn] using h)), (fun h0 => HF0.out (by simpa [upOn] using h0)), (fun h0 => HF1.out (by simpa [upOn] using h0)), (fun h0 h1 => HF2.out (by simpa [upOn] using h0) (by simpa [upOn] using h1)), (fun h0 => HF3.out (by simpa [upOn] using h0)), (fun h0 => HF4.out (by simpa [upOn] using h0))⟩
              · have HF0 := Lib.hid hw0; have HF1 := Lib.hid hw1; have HF2 := Lib.hid hw2; have HF3 := Lib.hid hw3; have HF4 := Lib.hid hw4
                have E0 := Lib.hid e0; have E1 := Lib.hid e1; have E2 := Lib.hid e2; have E3 := Lib.hid e3; have E4 := Lib.hid e4; have E6 := Lib.hid e6; have E7 := Lib.hid e7; have E8 := Lib.hid e8; have E9 := Lib.hid e9; have E10 := Lib.hid e10; have E11 := Lib.hid e11; have E12 := Lib.hid e12; have E13 := Lib.hid e13; have E14 := Lib.hid e14; have E15 := Lib.hid e15; have E16 := Lib.hid e16; have E17 := Lib.hid e17; have E18 := Lib.hid e18; have E19 := Lib.hid e19
                clear e0 e1 e2 e3 e4 e5 e6 e7 e8 e9 e10 e11 e12 e13 e14 e15 e16 e17 e18 e19 hw0 hw1 hw2 hw3 hw4
                refine wpOp_step rfl (fun K hK => ?_)
                go_simp
                exact hK _ _ ⟨_, _, _, _, _, _, _, _, _, _, _, _, _, _, _, _, _, _, _, _, rfl, (fun h => E0.out (by simpa [upOn] using h)), (fun h => E1.out (by simpa [upOn] using h)), (fun h => E2.out (by simpa [upOn] using h)), (fun h => E3.out (by simpa [upOn] using h)), (fun h => E4.out (by simpa [upOn] using h)), (fun _ => rfl), (fun h => E6.out (by simpa [upOn] using h)), (fun h => E7.out (by simpa [upOn] using h)), (fun h => E8.out (by simpa [upOn] using h)), (fun h => E9.out (by simpa [upOn] using h)), (fun h => E10.out (by simpa [upOn] using h)), (fun h => E11.out (by simpa [upOn] using h)), (fun h => E12.out (by simpa [upOn] using h)), (fun h => E13.out (by simpa [upOn] using h)), (fun h => E14.out (by simpa [upOn] using h)), (fun h => E15.out (by simpa [upOn] using h)), (fun h => E16.out (by simpa [upOn] using h)), (fun h => E17.out (by simpa [upOn] using h)), (fun h => E18.out (by simpa [upOn] using h)), (fun h => E19.out (by simpa [upOn] using h)), (fun h0 => HF0.out (by simpa [upOn] using h0)), (fun h0 => HF1.out (by simpa [upOn] using h0)), (fun h0 h1 => HF2.out (by simpa [upOn] using h0) (by simpa [upOn] using h1)), (fun h0 => HF3.out (by simpa [upOn] using h0)), (fun h0 => HF4.out (by simpa [upOn] using h0))⟩
              · have HF0 := Lib.hid hw0; have HF1 := Lib.hid hw1; have HF2 := Lib.hid hw2; have HF3 := Lib.hid hw3; have HF4 := Lib.hid hw4
                have l4 := (hdp 4 (by kernel_rfl))
                have l5 := (hdp 5 (by kernel_rfl))
                obtain rfl := e4 l4
                obtain rfl := e5 l5
                have E0 := Lib.hid e0; have E1 := Lib.hid e1; have E2 := Lib.hid e2; have E3 := Lib.hid e3; have E7 := Lib.hid e7; have E8 := Lib.hid e8; have E9 := Lib.hid e9; have E10 := Lib.hid e10; have E11 := Lib.hid e11; have E12 := Lib.hid e12; have E13 := Lib.hid e13; have E14 := Lib.hid e14; have E15 := Lib.hid e15; have E16 := Lib.hid e16; have E17 := Lib.hid e17; have E18 := Lib.hid e18; have E19 := Lib.hid e19
                clear e0 e1 e2 e3 e4 e5 e6 e7 e8 e9 e10 e11 e12 e13 e14 e15 e16 e17 e18 e19 hw0 hw1 hw2 hw3 hw4
                have ri := HRI0.out
                refine wpOp_step rfl (fun K hK => ?_)
                go_simp
                exact hK _ _ ⟨_, _, _, _, _, _, _, _, _, _, _, _, _, _, _, _, _, _, _, _, rfl, (fun h => E0.out (by simpa [upOn] using h)), (fun h => E1.out (by simpa [upOn] using h)), (fun h => E2.out (by simpa [upOn] using h)), (fun h => E3.out (by simpa [upOn] using h)), (fun _ => rfl), (fun _ => rfl), (fun _ => rfl), (fun h => E7.out (by simpa [upOn] using h)), (fun h => E8.out (by simpa [upOn] using h)), (fun h => E9.out (by simpa [upOn] using h)), (fun h => E10.out (by simpa [upOn] using h)), (fun h => E11.out (by simpa [upOn] using h)), (fun h => E12.out (by simpa [upOn] using h)), (fun h => E13.out (by simpa [upOn] using h)), (fun h => E14.out (by simpa [upOn] using h)), (fun h => E15.out (by simpa [upOn] using h)), (fun h => E16.out (by simpa [upOn] using h)), (fun h => E17.out (by simpa [upOn] using h)), (fun h => E18.out (by simpa [upOn] using h)), (fun h => E19.out (by simpa [upOn] using h)), (fun h0 => HF0.out (by simpa [upOn] using h0)), (fun h0 => HF1.out (by simpa [upOn] using h0)), (fun h0 h1 => HF2.out (by simpa [upOn] using h0) (by simpa [upOn] using h1)), (fun h0 => HF3.out (by simpa [upOn] using h0)), (fun h0 => HF4.out (by simpa [upOn] using h0))⟩
              · have HF0 := Lib.hid hw0; have HF1 := Lib.hid hw1; have HF2 := Lib.hid hw2; have HF3 := Lib.hid hw3; have HF4 := Lib.hid hw4
                have l6 := (hdp 6 (by kernel_rfl))
                obtain rfl := e6 l6
                have E0 := Lib.hid e0; have E1 := Lib.hid e1; have E2 := Lib.hid e2; have E3 := Lib.hid e3; have E4 := Lib.hid e4; have E5 := Lib.hid e5; have E8 := Lib.hid e8; have E9 := Lib.hid e9; have E10 := Lib.hid e10; have E11 := Lib.hid e11; have E12 := Lib.hid e12; have E13 := Lib.hid e13; have E14 := Lib.hid e14; have E15 := Lib.hid e15; have E16 := Lib.hid e16; have E17 := Lib.hid e17; have E18 := Lib.hid e18; have E19 := Lib.hid e19
                clear e0 e1 e2 e3 e4 e5 e6 e7 e8 e9 e10 e11 e12 e13 e14 e15 e16 e17 e18 e19 hw0 hw1 hw2 hw3 hw4
                refine wpOp_step rfl (fun K hK => ?_)
                go_simp
                refine (digit_any _ e0).mono ?_
                rintro e v1 ⟨rfl, rfl⟩
                exact hK _ _ ⟨_, _, _, _, _, _, _, _, _, _, _, _, _, _, _, _, _, _, _, _, rfl, (fun h => E0.out (by simpa [upOn] using h)), (fun h => E1.out (by simpa [upOn] using h)), (fun h => E2.out (by simpa [upOn] using h)), (fun h => E3.out (by simpa [upOn] using h)), (fun h => E4.out (by simpa [upOn] using h)), (fun h => E5.out (by simpa [upOn] using h)), (fun _ => rfl), (fun _ => rfl), (fun h => E8.out (by simpa [upOn] using h)), (fun h => E9.out (by simpa [upOn] using h)), (fun h => E10.out (by simpa [upOn] using h)), (fun h => E11.out (by simpa [upOn] using h)), (fun h => E12.out (by simpa [upOn] using h)), (fun h => E13.out (by simpa [upOn] using h)), (fun h => E14.out (by simpa [upOn] using h)), (fun h => E15.out (by simpa [upOn] using h)), (fun h => E16.out (by simpa [upOn] using h)), (fun h => E17.out (by simpa [upOn] using h)), (fun h => E18.out (by simpa [upOn] using h)), (fun h => E19.out (by simpa [upOn] using h)), (fun h0 => HF0.out (by simpa [upOn] using h0)), (fun h0 => HF1.out (by simpa [upOn] using h0)), (fun h0 h1 => HF2.out (by simpa [upOn] using h0) (by simpa [upOn] using h1)), (fun h0 => HF3.out (by simpa [upOn] using h0)), (fun h0 => HF4.out (by simpa [upOn] using h0))⟩
              · have HF0 := Lib.hid hw0; have HF1 := Lib.hid hw1; have HF2 := Lib.hid hw2; have HF3 := Lib.hid hw3; have HF4 := Lib.hid hw4
                have l7 := (hdp 7 (by kernel_rfl))
                obtain rfl := e7 l7
                have E0 := Lib.hid e0; have E1 := Lib.hid e1; have E2 := Lib.hid e2; have E3 := Lib.hid e3; have E4 := Lib.hid e4; have E5 := Lib.hid e5; have E6 := Lib.hid e6; have E9 := Lib.hid e9; have E10 := Lib.hid e10; have E11 := Lib.hid e11; have E12 := Lib.hid e12; have E13 := Lib.hid e13; have E14 := Lib.hid e14; have E15 := Lib.hid e15; have E16 := Lib.hid e16; have E17 := Lib.hid e17; have E18 := Lib.hid e18; have E19 := Lib.hid e19
                clear e0 e1 e2 e3 e4 e5 e6 e7 e8 e9 e10 e11 e12 e13 e14 e15 e16 e17 e18 e19 hw0 hw1 hw2 hw3 hw4
                have hw := HWR.out.1
                refine wpOp_step rfl (fun K hK => ?_)
                go_simp
                exact hK _ _ ⟨_, _, _, _, _, _, _, _, _, _, _, _, _, _, _, _, _, _, _, _, rfl, (fun h => E0.out (by simpa [upOn] using h)), (fun h => E1.out (by simpa [upOn] using h)), (fun h => E2.out (by simpa [upOn] using h)), (fun h => E3.out (by simpa [upOn] using h)), (fun h => E4.out (by simpa [upOn] using h)), (fun h => E5.out (by simpa [upOn] using h)), (fun h => E6.out (by simpa [upOn] using h)), (fun _ => rfl), (fun _ => rfl), (fun h => E9.out (by simpa [upOn] using h)), (fun h => E10.out (by simpa [upOn] using h)), (fun h => E11.out (by simpa [upOn] using h)), (fun h => E12.out (by simpa [upOn] using h)), (fun h => E13.out (by simpa [upOn] using h)), (fun h => E14.out (by simpa [upOn] using h)), (fun h => E15.out (by simpa [upOn] using h)), (fun h => E16.out (by simpa [upOn] using h)), (fun h => E17.out (by simpa [upOn] using h)), (fun h => E18.out (by simpa [upOn] using h)), (fun h => E19.out (by simpa [upOn] using h)), (fun h0 => HF0.out (by simpa [upOn] using h0)), (fun h0 => HF1.out (by simpa [upOn] using h0)), (fun h0 h1 => HF2.out (by simpa [upOn] using h0) (by simpa [upOn] using h1)), (fun h0 => HF3.out (by simpa [upOn] using h0)), (fun h0 => HF4.out (by simpa [upOn] using h0))⟩
              · have HF0 := Lib.hid hw0; have HF1 := Lib.hid hw1; have HF2 := Lib.hid hw2; have HF3 := Lib.hid hw3; have HF4 := Lib.hid hw4
                have E0 := Lib.hid e0; have E1 := Lib.hid e1; have E2 := Lib.hid e2; have E3 := Lib.hid e3; have E4 := Lib.hid e4; have E5 := Lib.hid e5; have E6 := Lib.hid e6; have E7 := Lib.hid e7; have E8 := Lib.hid e8; have E10 := Lib.hid e10; have E11 := Lib.hid e11; have E12 := Lib.hid e12; have E13 := Lib.hid e13; have E14 := Lib.hid e14; have E15 := Lib.hid e15; have E16 := Lib.hid e16; have E17 := Lib.hid e17; have E18 := Lib.hid e18; have E19 := Lib.hid e19
                clear e0 e1 e2 e3 e4 e5 e6 e7 e8 e9 e10 e11 e12 e13 e14 e15 e16 e17 e18 e19 hw0 hw1 hw2 hw3 hw4
                refine wpOp_step rfl (fun K hK => ?_)
                go_simp
                exact hK _ _ ⟨_, _, _, _, _, _, _, _, _, _, _, _, _, _, _, _, _, _, _, _, rfl, (fun h => E0.out (by simpa [upOn] using h)), (fun h => E1.out (by simpa [upOn] using h)), (fun h => E2.out (by simpa [upOn] using h)), (fun h => E3.out (by simpa [upOn] using h)), (fun h => E4.out (by simpa [upOn] using h)), (fun h => E5.out (by simpa [upOn] using h)), (fun h => E6.out (by simpa [upOn] using h)), (fun h => E7.out (by simpa [upOn] using h)), (fun h => E8.out (by simpa [upOn] using h)), (fun _ => rfl), (fun h => E10.out (by simpa [upOn] using h)), (fun h => E11.out (by simpa [upOn] using h)), (fun h => E12.out (by simpa [upOn] using h)), (fun h => E13.out (by simpa [upOn] using h)), (fun h => E14.out (by simpa [upOn] using h)), (fun h => E15.out (by simpa [upOn] using h)), (fun h => E16.out (by simpa [upOn] using h)), (fun h => E17.out (by simpa [upOn] using h)), (fun h => E18.out (by simpa [upOn] using h)), (fun h => E19.out (by simpa [upOn] using h)), (fun h0 => HF0.out (by simpa [upOn] using h0)), (fun h0 => HF1.out (by simpa [upOn] using h0)), (fun h0 h1 => HF2.out (by simpa [upOn] using h0) (by simpa [upOn] using h1)), (fun h0 => HF3.out (by simpa [upOn] using h0)), (fun h0 => HF4.out (by simpa [upOn] using h0))⟩
              · have HF0 := Lib.hid hw0; have HF1 := Lib.hid hw1; have HF2 := Lib.hid hw2; have HF3 := Lib.hid hw3; have HF4 := Lib.hid hw4
                have l9 := (hdp 9 (by kernel_rfl))
                obtain rfl := e9 l9
                have E0 := Lib.hid e0; have E1 := Lib.hid e1; have E2 := Lib.hid e2; have E3 := Lib.hid e3; have E4 := Lib.hid e4; have E5 := Lib.hid e5; have E6 := Lib.hid e6; have E7 := Lib.hid e7; have E8 := Lib.hid e8; have E11 := Lib.hid e11; have E12 := Lib.hid e12; have E13 := Lib.hid e13; have E14 := Lib.hid e14; have E15 := Lib.hid e15; have E16 := Lib.hid e16; have E17 := Lib.hid e17; have E18 := Lib.hid e18; have E19 := Lib.hid e19
                clear e0 e1 e2 e3 e4 e5 e6 e7 e8 e9 e10 e11 e12 e13 e14 e15 e16 e17 e18 e19 hw0 hw1 hw2 hw3 hw4
                have n2 : (2 : Int) < 3 := by omega
                refine wpOp_step rfl (fun K hK => ?_)
                go_simp
                exact hK _ _ ⟨_, _, _, _, _, _, _, _, _, _, _, _, _, _, _, _, _, _, _, _, rfl, (fun h => E0.out (by simpa [upOn] using h)), (fun h => E1.out (by simpa [upOn] using h)), (fun h => E2.out (by simpa [upOn] using h)), (fun h => E3.out (by simpa [upOn] using h)), (fun h => E4.out (by simpa [upOn] using h)), (fun h => E5.out (by simpa [upOn] using h)), (fun h => E6.out (by simpa [upOn] using h)), (fun h => E7.out (by simpa [upOn] using h)), (fun h => E8.out (by simpa [upOn] using h)), (fun _ => rfl), (fun _ => rfl), (fun h => E11.out (by simpa [upOn] using h)), (fun h => E12.out (by simpa [upOn] using h)), (fun h => E13.out (by simpa [upOn] using h)), (fun h => E14.out (by simpa [upOn] using h)), (fun h => E15.out (by simpa [upOn] using h)), (fun h => E16.out (by simpa [upOn] using h)), (fun h => E17.out (by simpa [upOn] using h)), (fun h => E18.out (by simpa [upOn] using h)), (fun h => E19.out (by simpa [upOn] using h)), (fun h0 => HF0.out (by simpa [upOn] using h0)), (fun h0 => HF1.out (by simpa [upOn] using h0)), (fun h0 h1 => HF2.out (by simpa [upOn] using h0) (by simpa [upOn] using h1)), (fun h0 => HF3.out (by simpa [upOn] using h0)), (fun h0 => HF4.out (by simpa [upOn] using h0))⟩
              · have HF0 := Lib.hid hw0; have HF1 := Lib.hid hw1; have HF2 := Lib.hid hw2; have HF3 := Lib.hid hw3; have HF4 := Lib.hid hw4
                have l10 := (hdp 10 (by kernel_rfl))
                have l20 : L 20 = false := by
                  cases h : L 20
                  · rfl
                  · exact absurd (hcl 14 11 (hcl 15 14 (hcl 16 15 (hcl 17 16 (hcl 18 17 (hcl 20 18 h (by kernel_rfl)) (by kernel_rfl)) (by kernel_rfl)) (by kernel_rfl)) (by kernel_rfl)) (by kernel_rfl)) (by rw [hLi]; decide)
                obtain rfl := e10 l10
                have E0 := Lib.hid e0; have E1 := Lib.hid e1; have E2 := Lib.hid e2; have E3 := Lib.hid e3; have E4 := Lib.hid e4; have E5 := Lib.hid e5; have E6 := Lib.hid e6; have E7 := Lib.hid e7; have E8 := Lib.hid e8; have E9 := Lib.hid e9; have E12 := Lib.hid e12; have E13 := Lib.hid e13; have E14 := Lib.hid e14; have E15 := Lib.hid e15; have E16 := Lib.hid e16; have E17 := Lib.hid e17; have E18 := Lib.hid e18; have E19 := Lib.hid e19
                clear e0 e1 e2 e3 e4 e5 e6 e7 e8 e9 e10 e11 e12 e13 e14 e15 e16 e17 e18 e19 hw0 hw1 hw2 hw3 hw4
                have wx := HW2.out _ _ _ _ (HF0.out l20)
                refine wpOp_step rfl (fun K hK => ?_)
                go_simp
                exact hK _ _ ⟨_, _, _, _, _, _, _, _, _, _, _, _, _, _, _, _, _, _, _, _, rfl, (fun h => E0.out (by simpa [upOn] using h)), (fun h => E1.out (by simpa [upOn] using h)), (fun h => E2.out (by simpa [upOn] using h)), (fun h => E3.out (by simpa [upOn] using h)), (fun h => E4.out (by simpa [upOn] using h)), (fun h => E5.out (by simpa [upOn] using h)), (fun h => E6.out (by simpa [upOn] using h)), (fun h => E7.out (by simpa [upOn] using h)), (fun h => E8.out (by simpa [upOn] using h)), (fun h => E9.out (by simpa [upOn] using h)), (fun _ => rfl), (fun _ => rfl), (fun h => E12.out (by simpa [upOn] using h)), (fun h => E13.out (by simpa [upOn] using h)), (fun h => E14.out (by simpa [upOn] using h)), (fun h => E15.out (by simpa [upOn] using h)), (fun h => E16.out (by simpa [upOn] using h)), (fun h => E17.out (by simpa [upOn] using h)), (fun h => E18.out (by simpa [upOn] using h)), (fun h => E19.out (by simpa [upOn] using h)), (fun h0 => HF0.out (by simpa [upOn] using h0)), (fun h0 => HF1.out (by simpa [upOn] using h0)), (fun h0 h1 => HF2.out (by simpa [upOn] using h0) (by simpa [upOn] using h1)), (fun h0 => HF3.out (by simpa [upOn] using h0)), (fun h0 => HF4.out (by simpa [upOn] using h0))⟩
              · have HF0 := Lib.hid hw0; have HF1 := Lib.hid hw1; have HF2 := Lib.hid hw2; have HF3 := Lib.hid hw3; have HF4 := Lib.hid hw4
                have E0 := Lib.hid e0; have E1 := Lib.hid e1; have E2 := Lib.hid e2; have E3 := Lib.hid e3; have E4 := Lib.hid e4; have E5 := Lib.hid e5; have E6 := Lib.hid e6; have E7 := Lib.hid e7; have E8 := Lib.hid e8; have E9 := Lib.hid e9; have E10 := Lib.hid e10; have E11 := Lib.hid e11; have E13 := Lib.hid e13; have E14 := Lib.hid e14; have E15 := Lib.hid e15; have E16 := Lib.hid e16; have E17 := Lib.hid e17; have E18 := Lib.hid e18; have E19 := Lib.hid e19
                clear e0 e1 e2 e3 e4 e5 e6 e7 e8 e9 e10 e11 e12 e13 e14 e15 e16 e17 e18 e19 hw0 hw1 hw2 hw3 hw4
                refine wpOp_step rfl (fun K hK => ?_)
                go_simp
                exact hK _ _ ⟨_, _, _, _, _, _, _, _, _, _, _, _, _, _, _, _, _, _, _, _, rfl, (fun h => E0.out (by simpa [upOn] using h)), (fun h => E1.out (by simpa [upOn] using h)), (fun h => E2.out (by simpa [upOn] using h)), (fun h => E3.out (by simpa [upOn] using h)), (fun h => E4.out (by simpa [upOn] using h)), (fun h => E5.out (by simpa [upOn] using h)), (fun h => E6.out (by simpa [upOn] using h)), (fun h => E7.out (by simpa [upOn] using h)), (fun h => E8.out (by simpa [upOn] using h)), (fun h => E9.out (by simpa [upOn] using h)), (fun h => E10.out (by simpa [upOn] using h)), (fun h => E11.out (by simpa [upOn] using h)), (fun _ => rfl), (fun h => E13.out (by simpa [upOn] using h)), (fun h => E14.out (by simpa [upOn] using h)), (fun h => E15.out (by simpa [upOn] using h)), (fun h => E16.out (by simpa [upOn] using h)), (fun h => E17.out (by simpa [upOn] using h)), (fun h => E18.out (by simpa [upOn] using h)), (fun h => E19.out (by simpa [upOn] using h)), (fun h0 => HF0.out (by simpa [upOn] using h0)), (fun h0 => HF1.out (by simpa [upOn] using h0)), (fun h0 h1 => HF2.out (by simpa [upOn] using h0) (by simpa [upOn] using h1)), (fun h0 => HF3.out (by simpa [upOn] using h0)), (fun h0 => HF4.out (by simpa [upOn] using h0))⟩
              · have HF0 := Lib.hid hw0; have HF1 := Lib.hid hw1; have HF2 := Lib.hid hw2; have HF3 := Lib.hid hw3; have HF4 := Lib.hid hw4
                have l12 := (hdp 12 (by kernel_rfl))
                obtain rfl := e12 l12
                have E0 := Lib.hid e0; have E1 := Lib.hid e1; have E2 := Lib.hid e2; have E3 := Lib.hid e3; have E4 := Lib.hid e4; have E5 := Lib.hid e5; have E6 := Lib.hid e6; have E7 := Lib.hid e7; have E8 := Lib.hid e8; have E9 := Lib.hid e9; have E10 := Lib.hid e10; have E11 := Lib.hid e11; have E14 := Lib.hid e14; have E15 := Lib.hid e15; have E16 := Lib.hid e16; have E17 := Lib.hid e17; have E18 := Lib.hid e18; have E19 := Lib.hid e19
                clear e0 e1 e2 e3 e4 e5 e6 e7 e8 e9 e10 e11 e12 e13 e14 e15 e16 e17 e18 e19 hw0 hw1 hw2 hw3 hw4
                have hw := HWR.out.2.1
                refine wpOp_step rfl (fun K hK => ?_)
                go_simp
                exact hK _ _ ⟨_, _, _, _, _, _, _, _, _, _, _, _, _, _, _, _, _, _, _, _, rfl, (fun h => E0.out (by simpa [upOn] using h)), (fun h => E1.out (by simpa [upOn] using h)), (fun h => E2.out (by simpa [upOn] using h)), (fun h => E3.out (by simpa [upOn] using h)), (fun h => E4.out (by simpa [upOn] using h)), (fun h => E5.out (by simpa [upOn] using h)), (fun h => E6.out (by simpa [upOn] using h)), (fun h => E7.out (by simpa [upOn] using h)), (fun h => E8.out (by simpa [upOn] using h)), (fun h => E9.out (by simpa [upOn] using h)), (fun h => E10.out (by simpa [upOn] using h)), (fun h => E11.out (by simpa [upOn] using h)), (fun _ => rfl), (fun _ => rfl), (fun h => E14.out (by simpa [upOn] using h)), (fun h => E15.out (by simpa [upOn] using h)), (fun h => E16.out (by simpa [upOn] using h)), (fun h => E17.out (by simpa [upOn] using h)), (fun h => E18.out (by simpa [upOn] using h)), (fun h => E19.out (by simpa [upOn] using h)), (fun h0 => HF0.out (by simpa [upOn] using h0)), (fun h0 => HF1.out (by simpa [upOn] using h0)), (fun h0 h1 => HF2.out (by simpa [upOn] using h0) (by simpa [upOn] using h1)), (fun h0 => HF3.out (by simpa [upOn] using h0)), (fun h0 => HF4.out (by simpa [upOn] using h0))⟩
              · have HF0 := Lib.hid hw0; have HF1 := Lib.hid hw1; have HF2 := Lib.hid hw2; have HF3 := Lib.hid hw3; have HF4 := Lib.hid hw4
                have l11 := (hdp 11 (by kernel_rfl))
                have l13 := (hdp 13 (by kernel_rfl))
                obtain rfl := e11 l11
                obtain rfl := e13 l13
                have E0 := Lib.hid e0; have E1 := Lib.hid e1; have E2 := Lib.hid e2; have E3 := Lib.hid e3; have E4 := Lib.hid e4; have E5 := Lib.hid e5; have E6 := Lib.hid e6; have E7 := Lib.hid e7; have E8 := Lib.hid e8; have E9 := Lib.hid e9; have E10 := Lib.hid e10; have E12 := Lib.hid e12; have E15 := Lib.hid e15; have E16 := Lib.hid e16; have E17 := Lib.hid e17; have E18 := Lib.hid e18; have E19 := Lib.hid e19
                clear e0 e1 e2 e3 e4 e5 e6 e7 e8 e9 e10 e11 e12 e13 e14 e15 e16 e17 e18 e19 hw0 hw1 hw2 hw3 hw4
                have ri := HRI1.out
                refine wpOp_step rfl (fun K hK => ?_)
                go_simp
                exact hK _ _ ⟨_, _, _, _, _, _, _, _, _, _, _, _, _, _, _, _, _, _, _, _, rfl, (fun h => E0.out (by simpa [upOn] using h)), (fun h => E1.out (by simpa [upOn] using h)), (fun h => E2.out (by simpa [upOn] using h)), (fun h => E3.out (by simpa [upOn] using h)), (fun h => E4.out (by simpa [upOn] using h)), (fun h => E5.out (by simpa [upOn] using h)), (fun h => E6.out (by simpa [upOn] using h)), (fun h => E7.out (by simpa [upOn] using h)), (fun h => E8.out (by simpa [upOn] using h)), (fun h => E9.out (by simpa [upOn] using h)), (fun h => E10.out (by simpa [upOn] using h)), (fun _ => rfl), (fun h => E12.out (by simpa [upOn] using h)), (fun _ => rfl), (fun _ => rfl), (fun h => E15.out (by simpa [upOn] using h)), (fun h => E16.out (by simpa [upOn] using h)), (fun h => E17.out (by simpa [upOn] using h)), (fun h => E18.out (by simpa [upOn] using h)), (fun h => E19.out (by simpa [upOn] using h)), (fun h0 => HF0.out (by simpa [upOn] using h0)), (fun h0 => HF1.out (by simpa [upOn] using h0)), (fun h0 h1 => HF2.out (by simpa [upOn] using h0) (by simpa [upOn] using h1)), (fun h0 => HF3.out (by simpa [upOn] using h0)), (fun h0 => HF4.out (by simpa [upOn] using h0))⟩
              · have HF0 := Lib.hid hw0; have HF1 := Lib.hid hw1; have HF2 := Lib.hid hw2; have HF3 := Lib.hid hw3; have HF4 := Lib.hid hw4
                have l14 := (hdp 14 (by kernel_rfl))
                obtain rfl := e14 l14
                have E0 := Lib.hid e0; have E1 := Lib.hid e1; have E2 := Lib.hid e2; have E3 := Lib.hid e3; have E4 := Lib.hid e4; have E5 := Lib.hid e5; have E6 := Lib.hid e6; have E7 := Lib.hid e7; have E8 := Lib.hid e8; have E9 := Lib.hid e9; have E10 := Lib.hid e10; have E11 := Lib.hid e11; have E12 := Lib.hid e12; have E13 := Lib.hid e13; have E16 := Lib.hid e16; have E17 := Lib.hid e17; have E18 := Lib.hid e18; have E19 := Lib.hid e19
                clear e0 e1 e2 e3 e4 e5 e6 e7 e8 e9 e10 e11 e12 e13 e14 e15 e16 e17 e18 e19 hw0 hw1 hw2 hw3 hw4
                refine wpOp_step rfl (fun K hK => ?_)
                go_simp
                refine (digit_any _ e1).mono ?_
                rintro e v1 ⟨rfl, rfl⟩
                exact hK _ _ ⟨_, _, _, _, _, _, _, _, _, _, _, _, _, _, _, _, _, _, _, _, rfl, (fun h => E0.out (by simpa [upOn] using h)), (fun h => E1.out (by simpa [upOn] using h)), (fun h => E2.out (by simpa [upOn] using h)), (fun h => E3.out (by simpa [upOn] using h)), (fun h => E4.out (by simpa [upOn] using h)), (fun h => E5.out (by simpa [upOn] using h)), (fun h => E6.out (by simpa [upOn] using h)), (fun h => E7.out (by simpa [upOn] using h)), (fun h => E8.out (by simpa [upOn] using h)), (fun h => E9.out (by simpa [upOn] using h)), (fun h => E10.out (by simpa [upOn] using h)), (fun h => E11.out (by simpa [upOn] using h)), (fun h => E12.out (by simpa [upOn] using h)), (fun h => E13.out (by simpa [upOn] using h)), (fun _ => rfl), (fun _ => rfl), (fun h => E16.out (by simpa [upOn] using h)), (fun h => E17.out (by simpa [upOn] using h)), (fun h => E18.out (by simpa [upOn] using h)), (fun h => E19.out (by simpa [upOn] using h)), (fun h0 => HF0.out (by simpa [upOn] using h0)), (fun h0 => HF1.out (by simpa [upOn] using h0)), (fun h0 h1 => HF2.out (by simpa [upOn] using h0) (by simpa [upOn] using h1)), (fun h0 => HF3.out (by simpa [upOn] using h0)), (fun h0 => HF4.out (by simpa [upOn] using h0))⟩
              · have HF0 := Lib.hid hw0; have HF1 := Lib.hid hw1; have HF2 := Lib.hid hw2; have HF3 := Lib.hid hw3; have HF4 := Lib.hid hw4
                have l8 := (hdp 8 (by kernel_rfl))
                have l15 := (hdp 15 (by kernel_rfl))
                obtain rfl := e8 l8
                obtain rfl := e15 l15
                have E0 := Lib.hid e0; have E1 := Lib.hid e1; have E2 := Lib.hid e2; have E3 := Lib.hid e3; have E4 := Lib.hid e4; have E5 := Lib.hid e5; have E6 := Lib.hid e6; have E7 := Lib.hid e7; have E9 := Lib.hid e9; have E10 := Lib.hid e10; have E11 := Lib.hid e11; have E12 := Lib.hid e12; have E13 := Lib.hid e13; have E14 := Lib.hid e14; have E17 := Lib.hid e17; have E18 := Lib.hid e18; have E19 := Lib.hid e19
                clear e0 e1 e2 e3 e4 e5 e6 e7 e8 e9 e10 e11 e12 e13 e14 e15 e16 e17 e18 e19 hw0 hw1 hw2 hw3 hw4
                have hw := HWR.out.2.2
                refine wpOp_step rfl (fun K hK => ?_)
                go_simp
                exact hK _ _ ⟨_, _, _, _, _, _, _, _, _, _, _, _, _, _, _, _, _, _, _, _, rfl, (fun h => E0.out (by simpa [upOn] using h)), (fun h => E1.out (by simpa [upOn] using h)), (fun h => E2.out (by simpa [upOn] using h)), (fun h => E3.out (by simpa [upOn] using h)), (fun h => E4.out (by simpa [upOn] using h)), (fun h => E5.out (by simpa [upOn] using h)), (fun h => E6.out (by simpa [upOn] using h)), (fun h => E7.out (by simpa [upOn] using h)), (fun _ => rfl), (fun h => E9.out (by simpa [upOn] using h)), (fun h => E10.out (by simpa [upOn] using h)), (fun h => E11.out (by simpa [upOn] using h)), (fun h => E12.out (by simpa [upOn] using h)), (fun h => E13.out (by simpa [upOn] using h)), (fun h => E14.out (by simpa [upOn] using h)), (fun _ => rfl), (fun _ => rfl), (fun h => E17.out (by simpa [upOn] using h)), (fun h => E18.out (by simpa [upOn] using h)), (fun h => E19.out (by simpa [upOn] using h)), (fun h0 => HF0.out (by simpa [upOn] using h0)), (fun h0 => HF1.out (by simpa [upOn] using h0)), (fun h0 h1 => HF2.out (by simpa [upOn] using h0) (by simpa [upOn] using h1)), (fun h0 => HF3.out (by simpa [upOn] using h0)), (fun h0 => HF4.out (by simpa [upOn] using h0))⟩
              · have HF0 := Lib.hid hw0; have HF1 := Lib.hid hw1; have HF2 := Lib.hid hw2; have HF3 := Lib.hid hw3; have HF4 := Lib.hid hw4
                have l16 := (hdp 16 (by kernel_rfl))
                have l18 : L 18 = false := by
                  cases h : L 18
                  · rfl
                  · exact absurd (hcl 18 17 h (by kernel_rfl)) (by rw [hLi]; decide)
                have l20 : L 20 = false := by
                  cases h : L 20
                  · rfl
                  · exact absurd (hcl 18 17 (hcl 20 18 h (by kernel_rfl)) (by kernel_rfl)) (by rw [hLi]; decide)
                obtain rfl := e16 l16
                have E0 := Lib.hid e0; have E1 := Lib.hid e1; have E2 := Lib.hid e2; have E3 := Lib.hid e3; have E4 := Lib.hid e4; have E5 := Lib.hid e5; have E6 := Lib.hid e6; have E7 := Lib.hid e7; have E8 := Lib.hid e8; have E9 := Lib.hid e9; have E10 := Lib.hid e10; have E11 := Lib.hid e11; have E12 := Lib.hid e12; have E13 := Lib.hid e13; have E14 := Lib.hid e14; have E15 := Lib.hid e15; have E18 := Lib.hid e18; have E19 := Lib.hid e19
                clear e0 e1 e2 e3 e4 e5 e6 e7 e8 e9 e10 e11 e12 e13 e14 e15 e16 e17 e18 e19 hw0 hw1 hw2 hw3 hw4
                refine wpOp_step rfl (fun K hK => ?_)
                go_simp
                exact hK _ _ ⟨_, _, _, _, _, _, _, _, _, _, _, _, _, _, _, _, _, _, _, _, rfl, (fun h => E0.out (by simpa [upOn] using h)), (fun h => E1.out (by simpa [upOn] using h)), (fun h => E2.out (by simpa [upOn] using h)), (fun h => E3.out (by simpa [upOn] using h)), (fun h => E4.out (by simpa [upOn] using h)), (fun h => E5.out (by simpa [upOn] using h)), (fun h => E6.out (by simpa [upOn] using h)), (fun h => E7.out (by simpa [upOn] using h)), (fun h => E8.out (by simpa [upOn] using h)), (fun h => E9.out (by simpa [upOn] using h)), (fun h => E10.out (by simpa [upOn] using h)), (fun h => E11.out (by simpa [upOn] using h)), (fun h => E12.out (by simpa [upOn] using h)), (fun h => E13.out (by simpa [upOn] using h)), (fun h => E14.out (by simpa [upOn] using h)), (fun h => E15.out (by simpa [upOn] using h)), (fun _ => rfl), (fun _ => ⟨_, rfl⟩), (fun h => E18.out (by simpa [upOn] using h)), (fun h => E19.out (by simpa [upOn] using h)), (fun h => (HF0.out l20).below (sbelow1 w' _)), (fun h => (HF1.out l18).alloc (HF1.out l18).size _), (fun _ _ g hg => by cases hg; exact heap_alloc_new w' (.cells #[.int .u8 (16 * ((hv e0 : Nat) : Int) + ((hv e1 : Nat) : Int))] 5)), (fun h => by simp [upOn, l18] at h), (fun h => by simp [upOn, l20] at h)⟩
              · have HF0 := Lib.hid hw0; have HF1 := Lib.hid hw1; have HF2 := Lib.hid hw2; have HF3 := Lib.hid hw3; have HF4 := Lib.hid hw4
                have l1 := (hdp 1 (by kernel_rfl))
                have l17 := (hdp 17 (by kernel_rfl))
                have l20 : L 20 = false := by
                  cases h : L 20
                  · rfl
                  · exact absurd (hcl 20 18 h (by kernel_rfl)) (by rw [hLi]; decide)
                obtain rfl := e1 l1
                obtain ⟨g7, rfl⟩ := e17 l17
                have E0 := Lib.hid e0; have E2 := Lib.hid e2; have E3 := Lib.hid e3; have E4 := Lib.hid e4; have E5 := Lib.hid e5; have E6 := Lib.hid e6; have E7 := Lib.hid e7; have E8 := Lib.hid e8; have E9 := Lib.hid e9; have E10 := Lib.hid e10; have E11 := Lib.hid e11; have E12 := Lib.hid e12; have E13 := Lib.hid e13; have E14 := Lib.hid e14; have E15 := Lib.hid e15; have E16 := Lib.hid e16; have E19 := Lib.hid e19
                clear e0 e1 e2 e3 e4 e5 e6 e7 e8 e9 e10 e11 e12 e13 e14 e15 e16 e17 e18 e19 hw0 hw1 hw2 hw3 hw4
                have hb7 := HF1.out hLi
                have HOW := Lib.hid (own_keep HOR.out fun b e => hb7.block b (HOR.out.lt b e).2)
                have hg6 := HF2.out l17 hLi g7 rfl
                have hR := HF0.out l20
                have hsz7 : p + 1 ≤ w'.heap.size := hR.lt
                refine wpOp_step rfl (fun K hK => ?_)
                refine wp_append_lies _ _ _ 24 (by rfl) (p + 1) 5 iu _ 1 1 Tryz.underlying24 hiu hu0 hu1 hu2 rfl (by omega) (.slice bA j bc) j _ (by rfl) HOW.out ⟨g7, 0, none⟩ 1 1 [.int .u8 (16 * ((hv e0 : Nat) : Int) + ((hv e1 : Nat) : Int))] (by rfl) (by rfl) (World.news_of_block (cs := #[.int .u8 (16 * ((hv e0 : Nat) : Int) + ((hv e1 : Nat) : Int))]) hg6) (by intro u hu; simp at hu; subst hu; rfl) (by omega) (by unfold maxLen; omega) (by omega) hsz7 w'.heap.size rfl ?_
                intro gg cap1 X1 hown1 hgrow hat hlt1
                have H18 := Lib.hid (⟨hown1, hR.grown hgrow (fun z e => by have := (HOW.out.lt z e).1; omega)⟩ : _ ∧ _)
                clear hown1 hR
                exact hK _ _ ⟨_, _, _, _, _, _, _, _, _, _, _, _, _, _, _, _, _, _, _, _, rfl, (fun h => E0.out (by simpa [upOn] using h)), (fun _ => rfl), (fun h => E2.out (by simpa [upOn] using h)), (fun h => E3.out (by simpa [upOn] using h)), (fun h => E4.out (by simpa [upOn] using h)), (fun h => E5.out (by simpa [upOn] using h)), (fun h => E6.out (by simpa [upOn] using h)), (fun h => E7.out (by simpa [upOn] using h)), (fun h => E8.out (by simpa [upOn] using h)), (fun h => E9.out (by simpa [upOn] using h)), (fun h => E10.out (by simpa [upOn] using h)), (fun h => E11.out (by simpa [upOn] using h)), (fun h => E12.out (by simpa [upOn] using h)), (fun h => E13.out (by simpa [upOn] using h)), (fun h => E14.out (by simpa [upOn] using h)), (fun h => E15.out (by simpa [upOn] using h)), (fun h => E16.out (by simpa [upOn] using h)), (fun _ => ⟨_, rfl⟩), (fun _ => ⟨_, _, rfl⟩), (fun h => E19.out (by simpa [upOn] using h)), (fun _ => H18.out.2), (fun h => by simp [upOn] at h), (fun _ h => by simp [upOn] at h), (fun _ g cap hg => by cases hg; exact H18.out.1), (fun h => by simp [upOn, l20] at h)⟩
              · have HF0 := Lib.hid hw0; have HF1 := Lib.hid hw1; have HF2 := Lib.hid hw2; have HF3 := Lib.hid hw3; have HF4 := Lib.hid hw4
                have E0 := Lib.hid e0; have E1 := Lib.hid e1; have E2 := Lib.hid e2; have E3 := Lib.hid e3; have E4 := Lib.hid e4; have E5 := Lib.hid e5; have E6 := Lib.hid e6; have E7 := Lib.hid e7; have E8 := Lib.hid e8; have E9 := Lib.hid e9; have E10 := Lib.hid e10; have E11 := Lib.hid e11; have E12 := Lib.hid e12; have E13 := Lib.hid e13; have E14 := Lib.hid e14; have E15 := Lib.hid e15; have E16 := Lib.hid e16; have E17 := Lib.hid e17; have E18 := Lib.hid e18
                clear e0 e1 e2 e3 e4 e5 e6 e7 e8 e9 e10 e11 e12 e13 e14 e15 e16 e17 e18 e19 hw0 hw1 hw2 hw3 hw4
                refine wpOp_step rfl (fun K hK => ?_)
                go_simp
                exact hK _ _ ⟨_, _, _, _, _, _, _, _, _, _, _, _, _, _, _, _, _, _, _, _, rfl, (fun h => E0.out (by simpa [upOn] using h)), (fun h => E1.out (by simpa [upOn] using h)), (fun h => E2.out (by simpa [upOn] using h)), (fun h => E3.out (by simpa [upOn] using h)), (fun h => E4.out (by simpa [upOn] using h)), (fun h => E5.out (by simpa [upOn] using h)), (fun h => E6.out (by simpa [upOn] using h)), (fun h => E7.out (by simpa [upOn] using h)), (fun h => E8.out (by simpa [upOn] using h)), (fun h => E9.out (by simpa [upOn] using h)), (fun h => E10.out (by simpa [upOn] using h)), (fun h => E11.out (by simpa [upOn] using h)), (fun h => E12.out (by simpa [upOn] using h)), (fun h => E13.out (by simpa [upOn] using h)), (fun h => E14.out (by simpa [upOn] using h)), (fun h => E15.out (by simpa [upOn] using h)), (fun h => E16.out (by simpa [upOn] using h)), (fun h => E17.out (by simpa [upOn] using h)), (fun h => E18.out (by simpa [upOn] using h)), (fun _ => rfl), (fun h0 => HF0.out (by simpa [upOn] using h0)), (fun h0 => HF1.out (by simpa [upOn] using h0)), (fun h0 h1 => HF2.out (by simpa [upOn] using h0) (by simpa [upOn] using h1)), (fun h0 => HF3.out (by simpa [upOn] using h0)), (fun h0 => HF4.out (by simpa [upOn] using h0))⟩
              · have HF0 := Lib.hid hw0; have HF1 := Lib.hid hw1; have HF2 := Lib.hid hw2; have HF3 := Lib.hid hw3; have HF4 := Lib.hid hw4
                have l18 := (hdp 18 (by kernel_rfl))
                have l19 := (hdp 19 (by kernel_rfl))
                obtain ⟨g8, cap8, rfl⟩ := e18 l18
                obtain rfl := e19 l19
                have E0 := Lib.hid e0; have E1 := Lib.hid e1; have E2 := Lib.hid e2; have E3 := Lib.hid e3; have E4 := Lib.hid e4; have E5 := Lib.hid e5; have E6 := Lib.hid e6; have E7 := Lib.hid e7; have E8 := Lib.hid e8; have E9 := Lib.hid e9; have E10 := Lib.hid e10; have E11 := Lib.hid e11; have E12 := Lib.hid e12; have E13 := Lib.hid e13; have E14 := Lib.hid e14; have E15 := Lib.hid e15; have E16 := Lib.hid e16; have E17 := Lib.hid e17
                clear e0 e1 e2 e3 e4 e5 e6 e7 e8 e9 e10 e11 e12 e13 e14 e15 e16 e17 e18 e19 hw0 hw1 hw2 hw3 hw4
                have hR := HF0.out hLi
                have hD := HF3.out l18 g8 cap8 rfl
                obtain ⟨-, -, q2, -⟩ := hR.cells
                have fz := hR.frz 2
                have H20 := Lib.hid (And.intro hR hD)
                clear hR hD
                refine wpOp_step rfl (fun K hK => ?_)
                go_simp
                exact hK _ _ ⟨_, _, _, _, _, _, _, _, _, _, _, _, _, _, _, _, _, _, _, _, rfl, (fun h => E0.out (by simpa [upOn] using h)), (fun h => E1.out (by simpa [upOn] using h)), (fun h => E2.out (by simpa [upOn] using h)), (fun h => E3.out (by simpa [upOn] using h)), (fun h => E4.out (by simpa [upOn] using h)), (fun h => E5.out (by simpa [upOn] using h)), (fun h => E6.out (by simpa [upOn] using h)), (fun h => E7.out (by simpa [upOn] using h)), (fun h => E8.out (by simpa [upOn] using h)), (fun h => E9.out (by simpa [upOn] using h)), (fun h => E10.out (by simpa [upOn] using h)), (fun h => E11.out (by simpa [upOn] using h)), (fun h => E12.out (by simpa [upOn] using h)), (fun h => E13.out (by simpa [upOn] using h)), (fun h => E14.out (by simpa [upOn] using h)), (fun h => E15.out (by simpa [upOn] using h)), (fun h => E16.out (by simpa [upOn] using h)), (fun h => E17.out (by simpa [upOn] using h)), (fun _ => ⟨_, _, rfl⟩), (fun _ => rfl), (fun h => by simp [upOn] at h), (fun h => by simp [upOn, l18] at h), (fun _ h => by simp [upOn, l18] at h), (fun _ g cap hg => by cases hg; exact ownsRow_setCell_below (a := ⟨p, 2, none⟩) H20.out.2 (Nat.lt_succ_self p) _), (fun _ => ⟨g8, cap8, H20.out.1.put 2 _ rfl, ownsRow_setCell_below (a := ⟨p, 2, none⟩) H20.out.2 (Nat.lt_succ_self p) _⟩)⟩
            case fin =>
              rintro L a' w' hall ⟨y0, y1, y2, y3, y4, y5, y6, y7, y8, y9, y10, y11, y12, y13, y14, y15, y16, y17, y18, y19, rfl, e0, e1, e2, e3, e4, e5, e6, e7, e8, e9, e10, e11, e12, e13, e14, e15, e16, e17, e18, e19, hw0, hw1, hw2, hw3, hw4⟩
              obtain rfl := e0 (hall 0 (by omega))
              obtain rfl := e1 (hall 1 (by omega))
              obtain rfl := e2 (hall 2 (by omega))
              obtain rfl := e3 (hall 3 (by omega))
              obtain rfl := e4 (hall 4 (by omega))
              obtain rfl := e5 (hall 5 (by omega))
              obtain rfl := e6 (hall 6 (by omega))
              obtain rfl := e7 (hall 7 (by omega))
              obtain rfl := e8 (hall 8 (by omega))
              obtain rfl := e9 (hall 9 (by omega))
              obtain rfl := e10 (hall 10 (by omega))
              obtain rfl := e11 (hall 11 (by omega))
              obtain rfl := e12 (hall 12 (by omega))
              obtain rfl := e13 (hall 13 (by omega))
              obtain rfl := e14 (hall 14 (by omega))
              obtain rfl := e15 (hall 15 (by omega))
              obtain rfl := e16 (hall 16 (by omega))
              obtain ⟨g7, rfl⟩ := e17 (hall 17 (by omega))
              obtain ⟨g8, cap8, rfl⟩ := e18 (hall 18 (by omega))
              obtain rfl := e19 (hall 19 (by omega))
              obtain ⟨g9, c9, hR, hD⟩ := hw4 (hall 20 (by omega))
              have HR9 := Lib.hid hR
              have HD9 := Lib.hid hD
              clear hw0 hw1 hw2 hw3 hw4 hall hR hD
              have hwi2 : IntKind.i64.wrap ((i : Int) + 2) = (i : Int) + 2 := by have := HI.out; rw [IntKind.wrap_i64]; omega
              go_wp2_with fail
              refine ⟨⟨i + 2, j + 1, some ⟨g9, 0, none⟩, c9, by have := HI.out; omega, by have := HI.out; omega, by go_num, HR9, Lib.hid ?_⟩, by have := HI.out; simp [intOf]; omega⟩
              have h := HD9.out
              rw [← HTK.out] at h
              exact h
          · have hltI : ¬ (i : Int) + 1 < (w2.length : Int) := by omega
            have htk : bz.take j = bz := List.take_of_length_le (by rw [HBL.out]; omega)
            have hor := HOR.out
            rw [htk] at hor
            have hjl : j = bz.length := by have h := hor.1; unfold valsOf at h; rw [List.length_map] at h; omega
            obtain ⟨A5, c5, hv5, hc5, hrd5⟩ := rd_own hor
            cases hv5
            have hlo5 := rd_own_lo hor
            have hj : j ≤ 1000000 := by omega
            have HJL := Lib.hid hjl
            clear hjl hij
            go_upto_region 24 with fail
            obtain ⟨ra, hra⟩ : ∃ ra, ra = rA s := ⟨_, rfl⟩
            rw [← hra] at HRD
            have HF : Hid (RA w wr p (spl s) (some x) 3 ra.kind ra.name bA j bc none 0 0 ra.mem ra.fuel) := Lib.hid (by rw [hra, HRE.out]; exact HRJ.out)
            have HAT : Hid (ActAt wr ra bA j bc none 0 0) := Lib.hid (by rw [hra, HRE.out]; exact ⟨HNL.out, hrd5, HBB.out, by unfold maxLen; omega, hc5, ⟨rfl, (fun y hy => by cases hy), fun h => absurd h (by omega)⟩, Nat.zero_le _, by show (-9223372036854775808 : Int) ≤ 0 ∧ (0 : Int) ≤ 9223372036854775807; omega, by show (-9223372036854775808 : Int) ≤ 0 ∧ (0 : Int) ≤ 9223372036854775807; omega⟩)
            have HLO : Hid (RLo (w.heap.size + 1) bA j ∧ RLo (w.heap.size + 1) none 0) := Lib.hid ⟨RLo.less (M := p + 1) hlo5 (by have := HRJ.out.hp; omega), fun h => absurd h (by omega)⟩
            have HRA := Lib.hid hra
            clear hra k0 k1 k2 k3 k4 k5 hor htk hrd5 hc5 hlo5 hx2 hil hlt hltI hwi
            have HMA := Lib.hid (rmayact_any wr ra bA j bc none 0 0 HAT.out)
            obtain ⟨k0, k1, k2, k3, k4, k5⟩ := HF.out.cells
            unfold actC at HMA
            cases hmay : ra.may with
            | false =>
              rw [hmay] at HMA
              have HRB : Hid (readB s = false) := Lib.hid (by rw [← HRD.out.1, hmay]; rfl)
              clear hmay
              go_wp2_with (go_at_call 33; (with_reducible refine HMA.out.mono ?_); rintro e w8 ⟨rfl, hb⟩; have HF8 := Lib.hid (HF.out.below hb); obtain ⟨⟨z0, z1, z2, z3, z4, z5⟩, y0, y1, y2, y3, y4, y5⟩ := HF8.out.zero; clear hb)
              refine ractof_fin (put6_block HF8.out.res (.int .i64 0) (.string ⟨#[]⟩) (.slice none 0 0) (.slice none 0 0) (.int .i64 0) (.int .i64 0)) _ rfl rfl rfl _ ?_
              rw [read_no HRB.out, HRB.out]
              exact ⟨none, 0, 0, none, 0, 0, rfl, none_at _ 0, (fun h => absurd h (by omega)), (fun h => absurd h (by omega)), put6_below HF8.out.hb _ (Nat.le_refl _) _ _ _ _ _ _⟩
            | true =>
              rw [hmay] at HMA
              have HTX := Lib.hid (fun V (hV : Below wr.heap.size wr V) => ractText_any V ra bA j bc none 0 0 (HAT.out.below hV) hmay (HT.out.below (HF.out.below hV).hb).t)
              unfold actC at HTX
              have HMY := Lib.hid hmay
              have hcmp := S_ne (l := ra.txt) (m := s)
              clear hmay
              by_cases hts : ra.txt = s
              · rw [decide_eq_true hts] at hcmp
                have HRB : Hid (readB s = true) := Lib.hid (by rw [← HRD.out.1, HMY.out, decide_eq_true hts]; rfl)
                clear hts
                generalize S ra.txt = ts at *
                go_wp2_with (first
                  | (go_at_call 33; (with_reducible refine HMA.out.mono ?_); rintro e w8 ⟨rfl, hb⟩; have HB8 := Lib.hid hb; obtain ⟨k0, k1, k2, k3, k4, k5⟩ := (HF.out.below hb).cells; clear hb)
                  | (go_at_call 34; (with_reducible refine (HTX.out _ HB8.out).mono ?_); rintro e w9 ⟨rfl, hb⟩; have HB9 := Lib.hid (HB8.out.trans (hb.mono HB8.out.size)); have HF9 := Lib.hid (HF.out.below (HB8.out.trans (hb.mono HB8.out.size))); obtain ⟨k0, k1, k2, k3, k4, k5⟩ := HF9.out.cells; obtain ⟨⟨z0, z1, z2, z3, z4, z5⟩, y0, y1, y2, y3, y4, y5⟩ := HF9.out.zero; clear hb))
                refine ractof_fin (put6_block HF9.out.res (.int .i64 ra.kind) (.string (S ra.name)) (.slice bA j bc) (.slice none 0 0) (.int .i64 ra.mem) (.int .i64 ra.fuel)) _ rfl rfl rfl _ ?_
                rw [read_yes HRB.out, HRB.out, ← HRA.out]
                exact ⟨bA, j, bc, none, 0, 0, rfl, (HAT.out.below HB9.out).keep HLO.out.1 HLO.out.2 (Nat.le_of_eq (put6_size _ _ _ _ _ _ _ _).symm) (fun z hz _ => put6_other _ _ _ _ _ _ _ _ _ (by omega)), HLO.out.1.less (by omega), HLO.out.2.less (by omega), put6_below HF9.out.hb _ (Nat.le_refl _) _ _ _ _ _ _⟩
              · rw [decide_eq_false hts] at hcmp
                have HRB : Hid (readB s = false) := Lib.hid (by rw [← HRD.out.1, HMY.out, decide_eq_false hts]; rfl)
                clear hts
                generalize S ra.txt = ts at *
                go_wp2_with (first
                  | (go_at_call 33; (with_reducible refine HMA.out.mono ?_); rintro e w8 ⟨rfl, hb⟩; have HB8 := Lib.hid hb; obtain ⟨k0, k1, k2, k3, k4, k5⟩ := (HF.out.below hb).cells; clear hb)
                  | (go_at_call 34; (with_reducible refine (HTX.out _ HB8.out).mono ?_); rintro e w9 ⟨rfl, hb⟩; have HF8 := Lib.hid (HF.out.below (HB8.out.trans (hb.mono HB8.out.size))); obtain ⟨⟨z0, z1, z2, z3, z4, z5⟩, y0, y1, y2, y3, y4, y5⟩ := HF8.out.zero; clear hb))
                refine ractof_fin (put6_block HF8.out.res (.int .i64 0) (.string ⟨#[]⟩) (.slice none 0 0) (.slice none 0 0) (.int .i64 0) (.int .i64 0)) _ rfl rfl rfl _ ?_
                rw [read_no HRB.out, HRB.out]
                exact ⟨none, 0, 0, none, 0, 0, rfl, none_at _ 0, (fun h => absurd h (by omega)), (fun h => absurd h (by omega)), put6_below HF8.out.hb _ (Nat.le_refl _) _ _ _ _ _ _⟩
      · by_cases hn3 : (n : Int) ≥ 3
        rotate_left
        · have hn3b : ¬ (3 : Int) ≤ (n : Int) := by omega
          have hraE : rA s = ⟨2, nm1, [], [], 0, 0⟩ := by
            unfold rA
            rw [← HKK.out, if_neg (by rw [HLE.out]; omega), if_neg (by omega), if_pos rfl, if_neg (by rw [HLE.out]; omega), HNM.out]
          go_upto_region 24 with fail
          obtain ⟨ra, hra⟩ : ∃ ra, ra = rA s := ⟨_, rfl⟩
          rw [← hra] at HRD
          have HF : Hid (RA w W4 p (spl s) (some x) n ra.kind ra.name none 0 0 none 0 0 ra.mem ra.fuel) := Lib.hid (by rw [hra, hraE]; exact HF4.out)
          have HAT : Hid (ActAt W4 ra none 0 0 none 0 0) := Lib.hid (by rw [hra, hraE]; exact at_plain _ _ _ _ _ HNL.out (by omega) (by omega))
          have HLO : Hid (RLo (w.heap.size + 1) none 0 ∧ RLo (w.heap.size + 1) none 0) := Lib.hid ⟨fun h => absurd h (by omega), fun h => absurd h (by omega)⟩
          have HRA := Lib.hid hra
          clear hraE hra k0 k1 k2 k3 k4 k5
          have HMA := Lib.hid (rmayact_any W4 ra none 0 0 none 0 0 HAT.out)
          obtain ⟨k0, k1, k2, k3, k4, k5⟩ := HF.out.cells
          unfold actC at HMA
          cases hmay : ra.may with
          | false =>
            rw [hmay] at HMA
            have HRB : Hid (readB s = false) := Lib.hid (by rw [← HRD.out.1, hmay]; rfl)
            clear hmay
            go_wp2_with (go_at_call 33; (with_reducible refine HMA.out.mono ?_); rintro e w8 ⟨rfl, hb⟩; have HF8 := Lib.hid (HF.out.below hb); obtain ⟨⟨z0, z1, z2, z3, z4, z5⟩, y0, y1, y2, y3, y4, y5⟩ := HF8.out.zero; clear hb)
            refine ractof_fin (put6_block HF8.out.res (.int .i64 0) (.string ⟨#[]⟩) (.slice none 0 0) (.slice none 0 0) (.int .i64 0) (.int .i64 0)) _ rfl rfl rfl _ ?_
            rw [read_no HRB.out, HRB.out]
            exact ⟨none, 0, 0, none, 0, 0, rfl, none_at _ 0, (fun h => absurd h (by omega)), (fun h => absurd h (by omega)), put6_below HF8.out.hb _ (Nat.le_refl _) _ _ _ _ _ _⟩
          | true =>
            rw [hmay] at HMA
            have HTX := Lib.hid (fun V (hV : Below W4.heap.size W4 V) => ractText_any V ra none 0 0 none 0 0 (HAT.out.below hV) hmay (HT.out.below (HF.out.below hV).hb).t)
            unfold actC at HTX
            have HMY := Lib.hid hmay
            have hcmp := S_ne (l := ra.txt) (m := s)
            clear hmay
            by_cases hts : ra.txt = s
            · rw [decide_eq_true hts] at hcmp
              have HRB : Hid (readB s = true) := Lib.hid (by rw [← HRD.out.1, HMY.out, decide_eq_true hts]; rfl)
              clear hts
              generalize S ra.txt = ts at *
              go_wp2_with (first
                | (go_at_call 33; (with_reducible refine HMA.out.mono ?_); rintro e w8 ⟨rfl, hb⟩; have HB8 := Lib.hid hb; obtain ⟨k0, k1, k2, k3, k4, k5⟩ := (HF.out.below hb).cells; clear hb)
                | (go_at_call 34; (with_reducible refine (HTX.out _ HB8.out).mono ?_); rintro e w9 ⟨rfl, hb⟩; have HB9 := Lib.hid (HB8.out.trans (hb.mono HB8.out.size)); have HF9 := Lib.hid (HF.out.below (HB8.out.trans (hb.mono HB8.out.size))); obtain ⟨k0, k1, k2, k3, k4, k5⟩ := HF9.out.cells; obtain ⟨⟨z0, z1, z2, z3, z4, z5⟩, y0, y1, y2, y3, y4, y5⟩ := HF9.out.zero; clear hb))
              refine ractof_fin (put6_block HF9.out.res (.int .i64 ra.kind) (.string (S ra.name)) (.slice none 0 0) (.slice none 0 0) (.int .i64 ra.mem) (.int .i64 ra.fuel)) _ rfl rfl rfl _ ?_
              rw [read_yes HRB.out, HRB.out, ← HRA.out]
              exact ⟨none, 0, 0, none, 0, 0, rfl, (HAT.out.below HB9.out).keep HLO.out.1 HLO.out.2 (Nat.le_of_eq (put6_size _ _ _ _ _ _ _ _).symm) (fun z hz _ => put6_other _ _ _ _ _ _ _ _ _ (by omega)), HLO.out.1.less (by omega), HLO.out.2.less (by omega), put6_below HF9.out.hb _ (Nat.le_refl _) _ _ _ _ _ _⟩
            · rw [decide_eq_false hts] at hcmp
              have HRB : Hid (readB s = false) := Lib.hid (by rw [← HRD.out.1, HMY.out, decide_eq_false hts]; rfl)
              clear hts
              generalize S ra.txt = ts at *
              go_wp2_with (first
                | (go_at_call 33; (with_reducible refine HMA.out.mono ?_); rintro e w8 ⟨rfl, hb⟩; have HB8 := Lib.hid hb; obtain ⟨k0, k1, k2, k3, k4, k5⟩ := (HF.out.below hb).cells; clear hb)
                | (go_at_call 34; (with_reducible refine (HTX.out _ HB8.out).mono ?_); rintro e w9 ⟨rfl, hb⟩; have HF8 := Lib.hid (HF.out.below (HB8.out.trans (hb.mono HB8.out.size))); obtain ⟨⟨z0, z1, z2, z3, z4, z5⟩, y0, y1, y2, y3, y4, y5⟩ := HF8.out.zero; clear hb))
              refine ractof_fin (put6_block HF8.out.res (.int .i64 0) (.string ⟨#[]⟩) (.slice none 0 0) (.slice none 0 0) (.int .i64 0) (.int .i64 0)) _ rfl rfl rfl _ ?_
              rw [read_no HRB.out, HRB.out]
              exact ⟨none, 0, 0, none, 0, 0, rfl, none_at _ 0, (fun h => absurd h (by omega)), (fun h => absurd h (by omega)), put6_below HF8.out.hb _ (Nat.le_refl _) _ _ _ _ _ _⟩
        have HW2 : Hid (∀ (V : World) (bA : Option Addr) (bn bc : Nat), RA w V p (spl s) (some x) n 2 nm1 bA bn bc none 0 0 0 0 → V.cell? x = some (.string (S (nthL (spl s) 0))) ∧ V.cell? ⟨x.block, x.off + 1, none⟩ = some (.string (S nm1))) := Lib.hid fun V bA bn bc hV => by
          obtain ⟨y, e, h1⟩ := hV.word (j := 0) (by omega)
          cases e
          obtain ⟨y, e, h2⟩ := hV.word (j := 1) (by omega)
          cases e
          rw [← HNM.out] at h2
          exact ⟨h1, h2⟩
        have h3 := spl_three (s := s) (by rw [HLE.out]; omega)
        rw [← HNM.out] at h3
        have hz0 := S_size (nthL (spl s) 0)
        have hz1 := S_size nm1
        obtain ⟨l0, hl0⟩ : ∃ l0, l0 = (nthL (spl s) 0).length := ⟨_, rfl⟩
        obtain ⟨l1, hl1⟩ : ∃ l1, l1 = nm1.length := ⟨_, rfl⟩
        rw [← hl0] at h3 hz0
        rw [← hl1] at h3 hz1
        obtain ⟨bz, hbz⟩ : ∃ bz, bz = s.drop (l0 + l1 + 2) := ⟨_, rfl⟩
        have hraE : rA s = ⟨2, nm1, bz.map fun c => (c.toNat : Int), [], 0, 0⟩ := by
          unfold rA
          rw [← HKK.out, if_neg (by rw [HLE.out]; omega), if_neg (by omega), if_pos rfl, if_pos (by rw [HLE.out]; omega), ← HNM.out, ← hl0, ← hl1, hbz]
        have HRE := Lib.hid hraE
        have HBZ : Hid (bz.length ≤ 1000000) := Lib.hid (by rw [hbz, List.length_drop]; omega)
        have hsz := S_size s
        have HSL : Hid (∀ V : World, (Instr.slice 9 (.string (S s)) (some (.int .i64 ((l0 : Int) + (l1 : Int) + 2))) none none).run Tryz.prog V = .ok (.string (S bz)) V) := Lib.hid fun V => by
          have e1 : (S s).extract (l0 + l1 + 2) s.length = S bz := by rw [S_extract, List.take_length, hbz]
          have e2 : ((l0 : Int) + (l1 : Int) + 2) = ((l0 + l1 + 2 : Nat) : Int) := by omega
          rw [e2]
          have h4 : l0 + l1 + 2 ≤ s.length := h3
          have h5 : ((l0 + l1 + 2 : Nat) : Int) ≤ (s.length : Int) := by omega
          have h6 : (0 : Int) ≤ ((l0 + l1 + 2 : Nat) : Int) := by omega
          generalize l0 + l1 + 2 = q at *
          simp [Instr.slice, Instr.sliceBounds, Instr.sliceBound, asIntOf, run_underlying (Tryz.underlying9), go_sem, h4, h5, h6, hsz, e1]
        have HWR : Hid (IntKind.i64.wrap ((l0 : Int) + (l1 : Int)) = (l0 : Int) + (l1 : Int) ∧ IntKind.i64.wrap ((l0 : Int) + (l1 : Int) + 2) = (l0 : Int) + (l1 : Int) + 2) := Lib.hid ⟨by rw [IntKind.wrap_i64]; omega, by rw [IntKind.wrap_i64]; omega⟩
        obtain ⟨sw0, hsw0⟩ : ∃ sw0, sw0 = S (nthL (spl s) 0) := ⟨_, rfl⟩
        obtain ⟨sw1, hsw1⟩ : ∃ sw1, sw1 = S nm1 := ⟨_, rfl⟩
        rw [← hsw0] at HW2 hz0
        rw [← hsw1] at HW2 hz1
        have HHZ0 := Lib.hid hz0
        have HHZ1 := Lib.hid hz1
        clear hraE h3 hz0 hz1 hl0 hl1 hbz hsz hsw0 hsw1
        go_upto_region 18 with fail
        clear k0 k1 k2 k3 k4 k5
        refine wp_region_inv' 15 rfl (fun L a' w' => ∃ y0 y1 y2 y3 y4 y5 y6 y7 y8 y9 y10 y11 y12 y13 : Value, a' = { tmps := List.toArray ((.string (S s)) :: undef :: (.pointer (some ⟨w.heap.size, 0, none⟩)) :: (.bool false) :: (.slice (some x) n c) :: (.pointer (some ⟨p, 0, none⟩)) :: (.int .i64 (7 : Int)) :: undef :: (.string (S s)) :: (.slice (some x) n c) :: (.int .i64 (7 : Int)) :: (.bool false) :: u12 :: u13 :: u14 :: u15 :: u16 :: u17 :: u18 :: u19 :: u20 :: u21 :: u22 :: u23 :: u24 :: (.pointer (some ⟨p, 0, none⟩)) :: (.int .i64 2) :: (.bool false) :: (.bool false) :: (.pointer (some ⟨p, 0, none⟩)) :: (.int .i64 2) :: (.bool true) :: (.bool true) :: (.slice (some x) n c) :: (.int .i64 (n : Int)) :: (.bool false) :: (.bool false) :: (.bool false) :: undef :: (.pointer (some ⟨p, 0, none⟩)) :: (.int .i64 2) :: (.bool true) :: (.slice (some x) n c) :: (.pointer (some ⟨x.block, x.off + 1, none⟩)) :: (.string (S nm1)) :: (.pointer (some ⟨p, 1, none⟩)) :: (.bool false) :: (.pointer (some ⟨p, 0, none⟩)) :: (.int .i64 2) :: (.bool false) :: (.bool false) :: undef :: undef :: undef :: (.bool false) :: (.bool false) :: undef :: undef :: undef :: undef :: (.bool false) :: undef :: undef :: undef :: undef :: undef :: undef :: undef :: undef :: undef :: undef :: undef :: undef :: undef :: undef :: undef :: undef :: undef :: undef :: undef :: undef :: undef :: undef :: undef :: undef :: undef :: undef :: undef :: undef :: undef :: (.bool true) :: (.pointer (some ⟨p, 0, none⟩)) :: (.int .i64 2) :: (.bool true) :: (.bool true) :: (.slice (some x) n c) :: (.int .i64 (n : Int)) :: (.bool true) :: (.bool true) :: y0 :: y1 :: y2 :: y3 :: y4 :: y5 :: y6 :: y7 :: y8 :: y9 :: y10 :: y11 :: y12 :: y13 :: undef :: undef :: undef :: undef :: undef :: undef :: undef :: undef :: undef :: undef :: undef :: undef :: undef :: undef :: undef :: undef :: undef :: undef :: undef :: undef :: undef :: undef :: undef :: undef :: undef :: undef :: undef :: undef :: undef :: undef :: undef :: undef :: undef :: undef :: undef :: undef :: undef :: undef :: undef :: undef :: undef :: undef :: undef :: undef :: undef :: undef :: undef :: []), defers := [] } ∧ (L 0 = true → y0 = .string (S s)) ∧ (L 1 = true → y1 = .slice (some x) n c) ∧ (L 2 = true → y2 = .pointer (some x)) ∧ (L 3 = true → y3 = .string sw0) ∧ (L 4 = true → y4 = .int .i64 (l0 : Int)) ∧ (L 5 = true → y5 = .slice (some x) n c) ∧ (L 6 = true → y6 = .pointer (some ⟨x.block, x.off + 1, none⟩)) ∧ (L 7 = true → y7 = .string sw1) ∧ (L 8 = true → y8 = .int .i64 (l1 : Int)) ∧ (L 9 = true → y9 = .int .i64 ((l0 : Int) + (l1 : Int))) ∧ (L 10 = true → y10 = .int .i64 ((l0 : Int) + (l1 : Int) + 2)) ∧ (L 11 = true → y11 = .string (S bz)) ∧ (L 12 = true → ∃ A5 c5, y12 = .slice A5 bz.length c5) ∧ (L 13 = true → y13 = .pointer (some ⟨p, 2, none⟩)) ∧ (L 14 = false → RA w w' p (spl s) (some x) n 2 nm1 none 0 0 none 0 0 0 0) ∧ (L 12 = true → ∀ A5 c5, y12 = .slice A5 bz.length c5 → Rd w' w'.heap.size .u8 A5 bz.length (bz.map fun c => (c.toNat : Int)) ∧ bz.length ≤ c5 ∧ RLo (p + 1) A5 bz.length) ∧ (L 14 = true → ∃ A5 c5, RA w w' p (spl s) (some x) n 2 nm1 A5 bz.length c5 none 0 0 0 0 ∧ Rd w' w'.heap.size .u8 A5 bz.length (bz.map fun c => (c.toNat : Int)) ∧ bz.length ≤ c5 ∧ RLo (p + 1) A5 bz.length)) (by kernel_rfl) (by kernel_rfl) ?h0 ?step ?fin
        case h0 => exact ⟨undef, undef, undef, undef, undef, undef, undef, undef, undef, undef, undef, undef, undef, undef, rfl, (fun e => by simp at e), (fun e => by simp at e), (fun e => by simp at e), (fun e => by simp at e), (fun e => by simp at e), (fun e => by simp at e), (fun e => by simp at e), (fun e => by simp at e), (fun e => by simp at e), (fun e => by simp at e), (fun e => by simp at e), (fun e => by simp at e), (fun e => by simp at e), (fun e => by simp at e), (fun _ => HF4.out.below (Below.refl _ _).drew), (fun e => by simp at e), (fun e => by simp at e)⟩
        case step =>
          rintro i hi L a' w' hLi hcl hdp ⟨y0, y1, y2, y3, y4, y5, y6, y7, y8, y9, y10, y11, y12, y13, rfl, e0, e1, e2, e3, e4, e5, e6, e7, e8, e9, e10, e11, e12, e13, hw0, hw1, hw2⟩
          have hi2 : i = 0 ∨ i = 1 ∨ i = 2 ∨ i = 3 ∨ i = 4 ∨ i = 5 ∨ i = 6 ∨ i = 7 ∨ i = 8 ∨ i = 9 ∨ i = 10 ∨ i = 11 ∨ i = 12 ∨ i = 13 ∨ i = 14 := by omega
          rcases hi2 with rfl | rfl | rfl | rfl | rfl | rfl | rfl | rfl | rfl | rfl | rfl | rfl | rfl | rfl | rfl
          · have HF0 := Lib.hid hw0; have HF1 := Lib.hid hw1; have HF2 := Lib.hid hw2
            have E1 := Lib.hid e1; have E2 := Lib.hid e2; have E3 := Lib.hid e3; have E4 := Lib.hid e4; have E5 := Lib.hid e5; have E6 := Lib.hid e6; have E7 := Lib.hid e7; have E8 := Lib.hid e8; have E9 := Lib.hid e9; have E10 := Lib.hid e10; have E11 := Lib.hid e11; have E12 := Lib.hid e12; have E13 := Lib.hid e13
            clear e0 e1 e2 e3 e4 e5 e6 e7 e8 e9 e10 e11 e12 e13 hw0 hw1 hw2
            refine wpOp_step rfl (fun K hK => ?_)
            go_simp
            exact hK _ _ ⟨_, _, _, _, _, _, _, _, _, _, _, _, _, _, rfl, (fun _ => rfl), (fun h => E1.out (by simpa [upOn] using h)), (fun h => E2.out (by simpa [upOn] using h)), (fun h => E3.out (by simpa [upOn] using h)), (fun h => E4.out (by simpa [upOn] using h)), (fun h => E5.out (by simpa [upOn] using h)), (fun h => E6.out (by simpa [upOn] using h)), (fun h => E7.out (by simpa [upOn] using h)), (fun h => E8.out (by simpa [upOn] using h)), (fun h => E9.out (by simpa [upOn] using h)), (fun h => E10.out (by simpa [upOn] using h)), (fun h => E11.out (by simpa [upOn] using h)), (fun h => E12.out (by simpa [upOn] using h)), (fun h => E13.out (by simpa [upOn] using h)), (fun h0 => HF0.out (by simpa [upOn] using h0)), (fun h0 => HF1.out (by simpa [upOn] using h0)), (fun h0 => HF2.out (by simpa [upOn] using h0))⟩
          · have HF0 := Lib.hid hw0; have HF1 := Lib.hid hw1; have HF2 := Lib.hid hw2
            have E0 := Lib.hid e0; have E2 := Lib.hid e2; have E3 := Lib.hid e3; have E4 := Lib.hid e4; have E5 := Lib.hid e5; have E6 := Lib.hid e6; have E7 := Lib.hid e7; have E8 := Lib.hid e8; have E9 := Lib.hid e9; have E10 := Lib.hid e10; have E11 := Lib.hid e11; have E12 := Lib.hid e12; have E13 := Lib.hid e13
            clear e0 e1 e2 e3 e4 e5 e6 e7 e8 e9 e10 e11 e12 e13 hw0 hw1 hw2
            refine wpOp_step rfl (fun K hK => ?_)
            go_simp
            exact hK _ _ ⟨_, _, _, _, _, _, _, _, _, _, _, _, _, _, rfl, (fun h => E0.out (by simpa [upOn] using h)), (fun _ => rfl), (fun h => E2.out (by simpa [upOn] using h)), (fun h => E3.out (by simpa [upOn] using h)), (fun h => E4.out (by simpa [upOn] using h)), (fun h => E5.out (by simpa [upOn] using h)), (fun h => E6.out (by simpa [upOn] using h)), (fun h => E7.out (by simpa [upOn] using h)), (fun h => E8.out (by simpa [upOn] using h)), (fun h => E9.out (by simpa [upOn] using h)), (fun h => E10.out (by simpa [upOn] using h)), (fun h => E11.out (by simpa [upOn] using h)), (fun h => E12.out (by simpa [upOn] using h)), (fun h => E13.out (by simpa [upOn] using h)), (fun h0 => HF0.out (by simpa [upOn] using h0)), (fun h0 => HF1.out (by simpa [upOn] using h0)), (fun h0 => HF2.out (by simpa [upOn] using h0))⟩
          · have HF0 := Lib.hid hw0; have HF1 := Lib.hid hw1; have HF2 := Lib.hid hw2
            have l1 := (hdp 1 (by kernel_rfl))
            obtain rfl := e1 l1
            have E0 := Lib.hid e0; have E3 := Lib.hid e3; have E4 := Lib.hid e4; have E5 := Lib.hid e5; have E6 := Lib.hid e6; have E7 := Lib.hid e7; have E8 := Lib.hid e8; have E9 := Lib.hid e9; have E10 := Lib.hid e10; have E11 := Lib.hid e11; have E12 := Lib.hid e12; have E13 := Lib.hid e13
            clear e0 e1 e2 e3 e4 e5 e6 e7 e8 e9 e10 e11 e12 e13 hw0 hw1 hw2
            have n0 : (0 : Int) < (n : Int) := by omega
            have n0b : 0 < n := by omega
            refine wpOp_step rfl (fun K hK => ?_)
            go_simp
            exact hK _ _ ⟨_, _, _, _, _, _, _, _, _, _, _, _, _, _, rfl, (fun h => E0.out (by simpa [upOn] using h)), (fun _ => rfl), (fun _ => by simp), (fun h => E3.out (by simpa [upOn] using h)), (fun h => E4.out (by simpa [upOn] using h)), (fun h => E5.out (by simpa [upOn] using h)), (fun h => E6.out (by simpa [upOn] using h)), (fun h => E7.out (by simpa [upOn] using h)), (fun h => E8.out (by simpa [upOn] using h)), (fun h => E9.out (by simpa [upOn] using h)), (fun h => E10.out (by simpa [upOn] using h)), (fun h => E11.out (by simpa [upOn] using h)), (fun h => E12.out (by simpa [upOn] using h)), (fun h => E13.out (by simpa [upOn] using h)), (fun h0 => HF0.out (by simpa [upOn] using h0)), (fun h0 => HF1.out (by simpa [upOn] using h0)), (fun h0 => HF2.out (by simpa [upOn] using h0))⟩
          · have HF0 := Lib.hid hw0; have HF1 := Lib.hid hw1; have HF2 := Lib.hid hw2
            have l2 := (hdp 2 (by kernel_rfl))
            have l14 : L 14 = false := by
              cases h : L 14
              · rfl
              · exact absurd (hcl 4 3 (hcl 9 4 (hcl 10 9 (hcl 11 10 (hcl 12 11 (hcl 14 12 h (by kernel_rfl)) (by kernel_rfl)) (by kernel_rfl)) (by kernel_rfl)) (by kernel_rfl)) (by kernel_rfl)) (by rw [hLi]; decide)
            obtain rfl := e2 l2
            have E0 := Lib.hid e0; have E1 := Lib.hid e1; have E4 := Lib.hid e4; have E5 := Lib.hid e5; have E6 := Lib.hid e6; have E7 := Lib.hid e7; have E8 := Lib.hid e8; have E9 := Lib.hid e9; have E10 := Lib.hid e10; have E11 := Lib.hid e11; have E12 := Lib.hid e12; have E13 := Lib.hid e13
            clear e0 e1 e2 e3 e4 e5 e6 e7 e8 e9 e10 e11 e12 e13 hw0 hw1 hw2
            obtain ⟨w0c, w1c⟩ := HW2.out _ _ _ _ (HF0.out l14)
            refine wpOp_step rfl (fun K hK => ?_)
            go_simp
            exact hK _ _ ⟨_, _, _, _, _, _, _, _, _, _, _, _, _, _, rfl, (fun h => E0.out (by simpa [upOn] using h)), (fun h => E1.out (by simpa [upOn] using h)), (fun _ => rfl), (fun _ => rfl), (fun h => E4.out (by simpa [upOn] using h)), (fun h => E5.out (by simpa [upOn] using h)), (fun h => E6.out (by simpa [upOn] using h)), (fun h => E7.out (by simpa [upOn] using h)), (fun h => E8.out (by simpa [upOn] using h)), (fun h => E9.out (by simpa [upOn] using h)), (fun h => E10.out (by simpa [upOn] using h)), (fun h => E11.out (by simpa [upOn] using h)), (fun h => E12.out (by simpa [upOn] using h)), (fun h => E13.out (by simpa [upOn] using h)), (fun h0 => HF0.out (by simpa [upOn] using h0)), (fun h0 => HF1.out (by simpa [upOn] using h0)), (fun h0 => HF2.out (by simpa [upOn] using h0))⟩
          · have HF0 := Lib.hid hw0; have HF1 := Lib.hid hw1; have HF2 := Lib.hid hw2
            have l3 := (hdp 3 (by kernel_rfl))
            obtain rfl := e3 l3
            have E0 := Lib.hid e0; have E1 := Lib.hid e1; have E2 := Lib.hid e2; have E5 := Lib.hid e5; have E6 := Lib.hid e6; have E7 := Lib.hid e7; have E8 := Lib.hid e8; have E9 := Lib.hid e9; have E10 := Lib.hid e10; have E11 := Lib.hid e11; have E12 := Lib.hid e12; have E13 := Lib.hid e13
            clear e0 e1 e2 e3 e4 e5 e6 e7 e8 e9 e10 e11 e12 e13 hw0 hw1 hw2
            have hz := HHZ0.out
            refine wpOp_step rfl (fun K hK => ?_)
            go_simp
            exact hK _ _ ⟨_, _, _, _, _, _, _, _, _, _, _, _, _, _, rfl, (fun h => E0.out (by simpa [upOn] using h)), (fun h => E1.out (by simpa [upOn] using h)), (fun h => E2.out (by simpa [upOn] using h)), (fun _ => rfl), (fun _ => rfl), (fun h => E5.out (by simpa [upOn] using h)), (fun h => E6.out (by simpa [upOn] using h)), (fun h => E7.out (by simpa [upOn] using h)), (fun h => E8.out (by simpa [upOn] using h)), (fun h => E9.out (by simpa [upOn] using h)), (fun h => E10.out (by simpa [upOn] using h)), (fun h => E11.out (by simpa [upOn] using h)), (fun h => E12.out (by simpa [upOn] using h)), (fun h => E13.out (by simpa [upOn] using h)), (fun h0 => HF0.out (by simpa [upOn] using h0)), (fun h0 => HF1.out (by simpa [upOn] using h0)), (fun h0 => HF2.out (by simpa [upOn] using h0))⟩
          · have HF0 := Lib.hid hw0; have HF1 := Lib.hid hw1; have HF2 := Lib.hid hw2
            have E0 := Lib.hid e0; have E1 := Lib.hid e1; have E2 := Lib.hid e2; have E3 := Lib.hid e3; have E4 := Lib.hid e4; have E6 := Lib.hid e6; have E7 := Lib.hid e7; have E8 := Lib.hid e8; have E9 := Lib.hid e9; have E10 := Lib.hid e10; have E11 := Lib.hid e11; have E12 := Lib.hid e12; have E13 := Lib.hid e13
            clear e0 e1 e2 e3 e4 e5 e6 e7 e8 e9 e10 e11 e12 e13 hw0 hw1 hw2
            refine wpOp_step rfl (fun K hK => ?_)
            go_simp
            exact hK _ _ ⟨_, _, _, _, _, _, _, _, _, _, _, _, _, _, rfl, (fun h => E0.out (by simpa [upOn] using h)), (fun h => E1.out (by simpa [upOn] using h)), (fun h => E2.out (by simpa [upOn] using h)), (fun h => E3.out (by simpa [upOn] using h)), (fun h => E4.out (by simpa [upOn] using h)), (fun _ => rfl), (fun h => E6.out (by simpa [upOn] using h)), (fun h => E7.out (by simpa [upOn] using h)), (fun h => E8.out (by simpa [upOn] using h)), (fun h => E9.out (by simpa [upOn] using h)), (fun h => E10.out (by simpa [upOn] using h)), (fun h => E11.out (by simpa [upOn] using h)), (fun h => E12.out (by simpa [upOn] using h)), (fun h => E13.out (by simpa [upOn] using h)), (fun h0 => HF0.out (by simpa [upOn] using h0)), (fun h0 => HF1.out (by simpa [upOn] using h0)), (fun h0 => HF2.out (by simpa [upOn] using h0))⟩
          · have HF0 := Lib.hid hw0; have HF1 := Lib.hid hw1; have HF2 := Lib.hid hw2
            have l5 := (hdp 5 (by kernel_rfl))
            obtain rfl := e5 l5
            have E0 := Lib.hid e0; have E1 := Lib.hid e1; have E2 := Lib.hid e2; have E3 := Lib.hid e3; have E4 := Lib.hid e4; have E7 := Lib.hid e7; have E8 := Lib.hid e8; have E9 := Lib.hid e9; have E10 := Lib.hid e10; have E11 := Lib.hid e11; have E12 := Lib.hid e12; have E13 := Lib.hid e13
            clear e0 e1 e2 e3 e4 e5 e6 e7 e8 e9 e10 e11 e12 e13 hw0 hw1 hw2
            have n1 : (1 : Int) < (n : Int) := by omega
            refine wpOp_step rfl (fun K hK => ?_)
            go_simp
            exact hK _ _ ⟨_, _, _, _, _, _, _, _, _, _, _, _, _, _, rfl, (fun h => E0.out (by simpa [upOn] using h)), (fun h => E1.out (by simpa [upOn] using h)), (fun h => E2.out (by simpa [upOn] using h)), (fun h => E3.out (by simpa [upOn] using h)), (fun h => E4.out (by simpa [upOn] using h)), (fun _ => rfl), (fun _ => rfl), (fun h => E7.out (by simpa [upOn] using h)), (fun h => E8.out (by simpa [upOn] using h)), (fun h => E9.out (by simpa [upOn] using h)), (fun h => E10.out (by simpa [upOn] using h)), (fun h => E11.out (by simpa [upOn] using h)), (fun h => E12.out (by simpa [upOn] using h)), (fun h => E13.out (by simpa [upOn] using h)), (fun h0 => HF0.out (by simpa [upOn] using h0)), (fun h0 => HF1.out (by simpa [upOn] using h0)), (fun h0 => HF2.out (by simpa [upOn] using h0))⟩
          · have HF0 := Lib.hid hw0; have HF1 := Lib.hid hw1; have HF2 := Lib.hid hw2
            have l6 := (hdp 6 (by kernel_rfl))
            have l14 : L 14 = false := by
              cases h : L 14
              · rfl
              · exact absurd (hcl 8 7 (hcl 9 8 (hcl 10 9 (hcl 11 10 (hcl 12 11 (hcl 14 12 h (by kernel_rfl)) (by kernel_rfl)) (by kernel_rfl)) (by kernel_rfl)) (by kernel_rfl)) (by kernel_rfl)) (by rw [hLi]; decide)
            obtain rfl := e6 l6
            have E0 := Lib.hid e0; have E1 := Lib.hid e1; have E2 := Lib.hid e2; have E3 := Lib.hid e3; have E4 := Lib.hid e4; have E5 := Lib.hid e5; have E8 := Lib.hid e8; have E9 := Lib.hid e9; have E10 := Lib.hid e10; have E11 := Lib.hid e11; have E12 := Lib.hid e12; have E13 := Lib.hid e13
            clear e0 e1 e2 e3 e4 e5 e6 e7 e8 e9 e10 e11 e12 e13 hw0 hw1 hw2
            obtain ⟨w0c, w1c⟩ := HW2.out _ _ _ _ (HF0.out l14)
            refine wpOp_step rfl (fun K hK => ?_)
            go_simp
            exact hK _ _ ⟨_, _, _, _, _, _, _, _, _, _, _, _, _, _, rfl, (fun h => E0.out (by simpa [upOn] using h)), (fun h => E1.out (by simpa [upOn] using h)), (fun h => E2.out (by simpa [upOn] using h)), (fun h => E3.out (by simpa [upOn] using h)), (fun h => E4.out (by simpa [upOn] using h)), (fun h => E5.out (by simpa [upOn] using h)), (fun _ => rfl), (fun _ => rfl), (fun h => E8.out (by simpa [upOn] using h)), (fun h => E9.out (by simpa [upOn] using h)), (fun h => E10.out (by simpa [upOn] using h)), (fun h => E11.out (by simpa [upOn] using h)), (fun h => E12.out (by simpa [upOn] using h)), (fun h => E13.out (by simpa [upOn] using h)), (fun h0 => HF0.out (by simpa [upOn] using h0)), (fun h0 => HF1.out (by simpa [upOn] using h0)), (fun h0 => HF2.out (by simpa [upOn] using h0))⟩
          · have HF0 := Lib.hid hw0; have HF1 := Lib.hid hw1; have HF2 := Lib.hid hw2
            have l7 := (hdp 7 (by kernel_rfl))
            obtain rfl := e7 l7
            have E0 := Lib.hid e0; have E1 := Lib.hid e1; have E2 := Lib.hid e2; have E3 := Lib.hid e3; have E4 := Lib.hid e4; have E5 := Lib.hid e5; have E6 := Lib.hid e6; have E9 := Lib.hid e9; have E10 := Lib.hid e10; have E11 := Lib.hid e11; have E12 := Lib.hid e12; have E13 := Lib.hid e13
            clear e0 e1 e2 e3 e4 e5 e6 e7 e8 e9 e10 e11 e12 e13 hw0 hw1 hw2
            have hz := HHZ1.out
            refine wpOp_step rfl (fun K hK => ?_)
            go_simp
            exact hK _ _ ⟨_, _, _, _, _, _, _, _, _, _, _, _, _, _, rfl, (fun h => E0.out (by simpa [upOn] using h)), (fun h => E1.out (by simpa [upOn] using h)), (fun h => E2.out (by simpa [upOn] using h)), (fun h => E3.out (by simpa [upOn] using h)), (fun h => E4.out (by simpa [upOn] using h)), (fun h => E5.out (by simpa [upOn] using h)), (fun h => E6.out (by simpa [upOn] using h)), (fun _ => rfl), (fun _ => rfl), (fun h => E9.out (by simpa [upOn] using h)), (fun h => E10.out (by simpa [upOn] using h)), (fun h => E11.out (by simpa [upOn] using h)), (fun h => E12.out (by simpa [upOn] using h)), (fun h => E13.out (by simpa [upOn] using h)), (fun h0 => HF0.out (by simpa [upOn] using h0)), (fun h0 => HF1.out (by simpa [upOn] using h0)), (fun h0 => HF2.out (by simpa [upOn] using h0))⟩
          · have HF0 := Lib.hid hw0; have HF1 := Lib.hid hw1; have HF2 := Lib.hid hw2
            have l4 := (hdp 4 (by kernel_rfl))
            have l8 := (hdp 8 (by kernel_rfl))
            obtain rfl := e4 l4
            obtain rfl := e8 l8
            have E0 := Lib.hid e0; have E1 := Lib.hid e1; have E2 := Lib.hid e2; have E3 := Lib.hid e3; have E5 := Lib.hid e5; have E6 := Lib.hid e6; have E7 := Lib.hid e7; have E10 := Lib.hid e10; have E11 := Lib.hid e11; have E12 := Lib.hid e12; have E13 := Lib.hid e13
            clear e0 e1 e2 e3 e4 e5 e6 e7 e8 e9 e10 e11 e12 e13 hw0 hw1 hw2
            have hw := HWR.out.1
            refine wpOp_step rfl (fun K hK => ?_)
            go_simp
            exact hK _ _ ⟨_, _, _, _, _, _, _, _, _, _, _, _, _, _, rfl, (fun h => E0.out (by simpa [upOn] using h)), (fun h => E1.out (by simpa [upOn] using h)), (fun h => E2.out (by simpa [upOn] using h)), (fun h => E3.out (by simpa [upOn] using h)), (fun _ => rfl), (fun h => E5.out (by simpa [upOn] using h)), (fun h => E6.out (by simpa [upOn] using h)), (fun h => E7.out (by simpa [upOn] using h)), (fun _ => rfl), (fun _ => rfl), (fun h => E10.out (by simpa [upOn] using h)), (fun h => E11.out (by simpa [upOn] using h)), (fun h => E12.out (by simpa [upOn] using h)), (fun h => E13.out (by simpa [upOn] using h)), (fun h0 => HF0.out (by simpa [upOn] using h0)), (fun h0 => HF1.out (by simpa [upOn] using h0)), (fun h0 => HF2.out (by simpa [upOn] using h0))⟩
          · have HF0 := Lib.hid hw0; have HF1 := Lib.hid hw1; have HF2 := Lib.hid hw2
            have l9 := (hdp 9 (by kernel_rfl))
            obtain rfl := e9 l9
            have E0 := Lib.hid e0; have E1 := Lib.hid e1; have E2 := Lib.hid e2; have E3 := Lib.hid e3; have E4 := Lib.hid e4; have E5 := Lib.hid e5; have E6 := Lib.hid e6; have E7 := Lib.hid e7; have E8 := Lib.hid e8; have E11 := Lib.hid e11; have E12 := Lib.hid e12; have E13 := Lib.hid e13
            clear e0 e1 e2 e3 e4 e5 e6 e7 e8 e9 e10 e11 e12 e13 hw0 hw1 hw2
            have hw := HWR.out.2
            refine wpOp_step rfl (fun K hK => ?_)
            go_simp
            exact hK _ _ ⟨_, _, _, _, _, _, _, _, _, _, _, _, _, _, rfl, (fun h => E0.out (by simpa [upOn] using h)), (fun h => E1.out (by simpa [upOn] using h)), (fun h => E2.out (by simpa [upOn] using h)), (fun h => E3.out (by simpa [upOn] using h)), (fun h => E4.out (by simpa [upOn] using h)), (fun h => E5.out (by simpa [upOn] using h)), (fun h => E6.out (by simpa [upOn] using h)), (fun h => E7.out (by simpa [upOn] using h)), (fun h => E8.out (by simpa [upOn] using h)), (fun _ => rfl), (fun _ => rfl), (fun h => E11.out (by simpa [upOn] using h)), (fun h => E12.out (by simpa [upOn] using h)), (fun h => E13.out (by simpa [upOn] using h)), (fun h0 => HF0.out (by simpa [upOn] using h0)), (fun h0 => HF1.out (by simpa [upOn] using h0)), (fun h0 => HF2.out (by simpa [upOn] using h0))⟩
          · have HF0 := Lib.hid hw0; have HF1 := Lib.hid hw1; have HF2 := Lib.hid hw2
            have l0 := (hdp 0 (by kernel_rfl))
            have l10 := (hdp 10 (by kernel_rfl))
            obtain rfl := e0 l0
            obtain rfl := e10 l10
            have E1 := Lib.hid e1; have E2 := Lib.hid e2; have E3 := Lib.hid e3; have E4 := Lib.hid e4; have E5 := Lib.hid e5; have E6 := Lib.hid e6; have E7 := Lib.hid e7; have E8 := Lib.hid e8; have E9 := Lib.hid e9; have E12 := Lib.hid e12; have E13 := Lib.hid e13
            clear e0 e1 e2 e3 e4 e5 e6 e7 e8 e9 e10 e11 e12 e13 hw0 hw1 hw2
            have hs := HSL.out
            refine wpOp_step rfl (fun K hK => ?_)
            go_simp
            exact hK _ _ ⟨_, _, _, _, _, _, _, _, _, _, _, _, _, _, rfl, (fun _ => rfl), (fun h => E1.out (by simpa [upOn] using h)), (fun h => E2.out (by simpa [upOn] using h)), (fun h => E3.out (by simpa [upOn] using h)), (fun h => E4.out (by simpa [upOn] using h)), (fun h => E5.out (by simpa [upOn] using h)), (fun h => E6.out (by simpa [upOn] using h)), (fun h => E7.out (by simpa [upOn] using h)), (fun h => E8.out (by simpa [upOn] using h)), (fun h => E9.out (by simpa [upOn] using h)), (fun _ => rfl), (fun _ => rfl), (fun h => E12.out (by simpa [upOn] using h)), (fun h => E13.out (by simpa [upOn] using h)), (fun h0 => HF0.out (by simpa [upOn] using h0)), (fun h0 => HF1.out (by simpa [upOn] using h0)), (fun h0 => HF2.out (by simpa [upOn] using h0))⟩
          · have HF0 := Lib.hid hw0; have HF1 := Lib.hid hw1; have HF2 := Lib.hid hw2
            have l11 := (hdp 11 (by kernel_rfl))
            have l14 : L 14 = false := by
              cases h : L 14
              · rfl
              · exact absurd (hcl 14 12 h (by kernel_rfl)) (by rw [hLi]; decide)
            obtain rfl := e11 l11
            have E0 := Lib.hid e0; have E1 := Lib.hid e1; have E2 := Lib.hid e2; have E3 := Lib.hid e3; have E4 := Lib.hid e4; have E5 := Lib.hid e5; have E6 := Lib.hid e6; have E7 := Lib.hid e7; have E8 := Lib.hid e8; have E9 := Lib.hid e9; have E10 := Lib.hid e10; have E13 := Lib.hid e13
            clear e0 e1 e2 e3 e4 e5 e6 e7 e8 e9 e10 e11 e12 e13 hw0 hw1 hw2
            obtain ⟨c5, W5, hc5, hb5, hr5, hcv⟩ := conv_sb w' bz
            have H12 := Lib.hid (⟨hc5, hb5, hr5⟩ : _ ∧ _ ∧ _)
            clear hc5 hb5 hr5
            refine wpOp_step rfl (fun K hK => ?_)
            go_simp
            exact hK _ _ ⟨_, _, _, _, _, _, _, _, _, _, _, _, _, _, rfl, (fun h => E0.out (by simpa [upOn] using h)), (fun h => E1.out (by simpa [upOn] using h)), (fun h => E2.out (by simpa [upOn] using h)), (fun h => E3.out (by simpa [upOn] using h)), (fun h => E4.out (by simpa [upOn] using h)), (fun h => E5.out (by simpa [upOn] using h)), (fun h => E6.out (by simpa [upOn] using h)), (fun h => E7.out (by simpa [upOn] using h)), (fun h => E8.out (by simpa [upOn] using h)), (fun h => E9.out (by simpa [upOn] using h)), (fun h => E10.out (by simpa [upOn] using h)), (fun _ => rfl), (fun _ => ⟨_, _, rfl⟩), (fun h => E13.out (by simpa [upOn] using h)), (fun h => (HF0.out (by simpa [upOn] using h)).below H12.out.2.1), (fun _ A5 c5 hg => by cases hg; exact ⟨H12.out.2.2, H12.out.1, fun _ => ⟨_, rfl, (HF0.out l14).lt⟩⟩), (fun h => by simp [upOn, l14] at h)⟩
          · have HF0 := Lib.hid hw0; have HF1 := Lib.hid hw1; have HF2 := Lib.hid hw2
            have E0 := Lib.hid e0; have E1 := Lib.hid e1; have E2 := Lib.hid e2; have E3 := Lib.hid e3; have E4 := Lib.hid e4; have E5 := Lib.hid e5; have E6 := Lib.hid e6; have E7 := Lib.hid e7; have E8 := Lib.hid e8; have E9 := Lib.hid e9; have E10 := Lib.hid e10; have E11 := Lib.hid e11; have E12 := Lib.hid e12
            clear e0 e1 e2 e3 e4 e5 e6 e7 e8 e9 e10 e11 e12 e13 hw0 hw1 hw2
            refine wpOp_step rfl (fun K hK => ?_)
            go_simp
            exact hK _ _ ⟨_, _, _, _, _, _, _, _, _, _, _, _, _, _, rfl, (fun h => E0.out (by simpa [upOn] using h)), (fun h => E1.out (by simpa [upOn] using h)), (fun h => E2.out (by simpa [upOn] using h)), (fun h => E3.out (by simpa [upOn] using h)), (fun h => E4.out (by simpa [upOn] using h)), (fun h => E5.out (by simpa [upOn] using h)), (fun h => E6.out (by simpa [upOn] using h)), (fun h => E7.out (by simpa [upOn] using h)), (fun h => E8.out (by simpa [upOn] using h)), (fun h => E9.out (by simpa [upOn] using h)), (fun h => E10.out (by simpa [upOn] using h)), (fun h => E11.out (by simpa [upOn] using h)), (fun h => E12.out (by simpa [upOn] using h)), (fun _ => rfl), (fun h0 => HF0.out (by simpa [upOn] using h0)), (fun h0 => HF1.out (by simpa [upOn] using h0)), (fun h0 => HF2.out (by simpa [upOn] using h0))⟩
          · have HF0 := Lib.hid hw0; have HF1 := Lib.hid hw1; have HF2 := Lib.hid hw2
            have l12 := (hdp 12 (by kernel_rfl))
            have l13 := (hdp 13 (by kernel_rfl))
            obtain ⟨A5, c5, rfl⟩ := e12 l12
            obtain rfl := e13 l13
            have E0 := Lib.hid e0; have E1 := Lib.hid e1; have E2 := Lib.hid e2; have E3 := Lib.hid e3; have E4 := Lib.hid e4; have E5 := Lib.hid e5; have E6 := Lib.hid e6; have E7 := Lib.hid e7; have E8 := Lib.hid e8; have E9 := Lib.hid e9; have E10 := Lib.hid e10; have E11 := Lib.hid e11
            clear e0 e1 e2 e3 e4 e5 e6 e7 e8 e9 e10 e11 e12 e13 hw0 hw1 hw2
            have hR := HF0.out hLi
            have hD := HF1.out l12 A5 c5 rfl
            obtain ⟨-, -, q2, -⟩ := hR.cells
            have fz := hR.frz 2
            have H14 := Lib.hid (And.intro hR hD)
            clear hR hD
            refine wpOp_step rfl (fun K hK => ?_)
            go_simp
            exact hK _ _ ⟨_, _, _, _, _, _, _, _, _, _, _, _, _, _, rfl, (fun h => E0.out (by simpa [upOn] using h)), (fun h => E1.out (by simpa [upOn] using h)), (fun h => E2.out (by simpa [upOn] using h)), (fun h => E3.out (by simpa [upOn] using h)), (fun h => E4.out (by simpa [upOn] using h)), (fun h => E5.out (by simpa [upOn] using h)), (fun h => E6.out (by simpa [upOn] using h)), (fun h => E7.out (by simpa [upOn] using h)), (fun h => E8.out (by simpa [upOn] using h)), (fun h => E9.out (by simpa [upOn] using h)), (fun h => E10.out (by simpa [upOn] using h)), (fun h => E11.out (by simpa [upOn] using h)), (fun _ => ⟨A5, _, rfl⟩), (fun _ => rfl), (fun h => by simp [upOn] at h), (fun _ A5 c5 hg => by cases hg; exact ⟨rd_set H14.out.2.1 H14.out.2.2.2, H14.out.2.2⟩), (fun _ => ⟨A5, c5, H14.out.1.put 2 _ rfl, rd_set H14.out.2.1 H14.out.2.2.2, H14.out.2.2⟩)⟩
        case fin =>
          rintro L a' w' hall ⟨y0, y1, y2, y3, y4, y5, y6, y7, y8, y9, y10, y11, y12, y13, rfl, e0, e1, e2, e3, e4, e5, e6, e7, e8, e9, e10, e11, e12, e13, hw0, hw1, hw2⟩
          obtain rfl := e0 (hall 0 (by omega))
          obtain rfl := e1 (hall 1 (by omega))
          obtain rfl := e2 (hall 2 (by omega))
          obtain rfl := e3 (hall 3 (by omega))
          obtain rfl := e4 (hall 4 (by omega))
          obtain rfl := e5 (hall 5 (by omega))
          obtain rfl := e6 (hall 6 (by omega))
          obtain rfl := e7 (hall 7 (by omega))
          obtain rfl := e8 (hall 8 (by omega))
          obtain rfl := e9 (hall 9 (by omega))
          obtain rfl := e10 (hall 10 (by omega))
          obtain rfl := e11 (hall 11 (by omega))
          obtain ⟨A5, c5, rfl⟩ := e12 (hall 12 (by omega))
          obtain rfl := e13 (hall 13 (by omega))
          obtain ⟨A6, c6, hR, hD⟩ := hw2 (hall 14 (by omega))
          have HR7 := Lib.hid hR
          have HD7 := Lib.hid hD
          clear hw0 hw1 hw2 hall hR hD
          obtain ⟨k0, k1, k2, k3, k4, k5⟩ := HR7.out.cells
          go_upto_region 24 with fail
          obtain ⟨ra, hra⟩ : ∃ ra, ra = rA s := ⟨_, rfl⟩
          rw [← hra] at HRD
          have HF : Hid (RA w w' p (spl s) (some x) n ra.kind ra.name A6 bz.length c6 none 0 0 ra.mem ra.fuel) := Lib.hid (by rw [hra, HRE.out]; exact HR7.out)
          have HAT : Hid (ActAt w' ra A6 bz.length c6 none 0 0) := Lib.hid (by rw [hra, HRE.out]; exact ⟨HNL.out, HD7.out.1, (fun y hy => by obtain ⟨d, -, rfl⟩ := List.mem_map.1 hy; have := d.toNat_lt; omega), by have := HBZ.out; unfold maxLen; omega, HD7.out.2.1, ⟨rfl, (fun y hy => by cases hy), fun h => absurd h (by omega)⟩, Nat.zero_le _, by show (-9223372036854775808 : Int) ≤ 0 ∧ (0 : Int) ≤ 9223372036854775807; omega, by show (-9223372036854775808 : Int) ≤ 0 ∧ (0 : Int) ≤ 9223372036854775807; omega⟩)
          have HLO : Hid (RLo (w.heap.size + 1) A6 bz.length ∧ RLo (w.heap.size + 1) none 0) := Lib.hid ⟨HD7.out.2.2.less (by have := HR7.out.hp; omega), fun h => absurd h (by omega)⟩
          have HRA := Lib.hid hra
          clear hra k0 k1 k2 k3 k4 k5
          have HMA := Lib.hid (rmayact_any w' ra A6 bz.length c6 none 0 0 HAT.out)
          obtain ⟨k0, k1, k2, k3, k4, k5⟩ := HF.out.cells
          unfold actC at HMA
          cases hmay : ra.may with
          | false =>
            rw [hmay] at HMA
            have HRB : Hid (readB s = false) := Lib.hid (by rw [← HRD.out.1, hmay]; rfl)
            clear hmay
            go_wp2_with (go_at_call 33; (with_reducible refine HMA.out.mono ?_); rintro e w8 ⟨rfl, hb⟩; have HF8 := Lib.hid (HF.out.below hb); obtain ⟨⟨z0, z1, z2, z3, z4, z5⟩, y0, y1, y2, y3, y4, y5⟩ := HF8.out.zero; clear hb)
            refine ractof_fin (put6_block HF8.out.res (.int .i64 0) (.string ⟨#[]⟩) (.slice none 0 0) (.slice none 0 0) (.int .i64 0) (.int .i64 0)) _ rfl rfl rfl _ ?_
            rw [read_no HRB.out, HRB.out]
            exact ⟨none, 0, 0, none, 0, 0, rfl, none_at _ 0, (fun h => absurd h (by omega)), (fun h => absurd h (by omega)), put6_below HF8.out.hb _ (Nat.le_refl _) _ _ _ _ _ _⟩
          | true =>
            rw [hmay] at HMA
            have HTX := Lib.hid (fun V (hV : Below w'.heap.size w' V) => ractText_any V ra A6 bz.length c6 none 0 0 (HAT.out.below hV) hmay (HT.out.below (HF.out.below hV).hb).t)
            unfold actC at HTX
            have HMY := Lib.hid hmay
            have hcmp := S_ne (l := ra.txt) (m := s)
            clear hmay
            by_cases hts : ra.txt = s
            · rw [decide_eq_true hts] at hcmp
              have HRB : Hid (readB s = true) := Lib.hid (by rw [← HRD.out.1, HMY.out, decide_eq_true hts]; rfl)
              clear hts
              generalize S ra.txt = ts at *
              go_wp2_with (first
                | (go_at_call 33; (with_reducible refine HMA.out.mono ?_); rintro e w8 ⟨rfl, hb⟩; have HB8 := Lib.hid hb; obtain ⟨k0, k1, k2, k3, k4, k5⟩ := (HF.out.below hb).cells; clear hb)
                | (go_at_call 34; (with_reducible refine (HTX.out _ HB8.out).mono ?_); rintro e w9 ⟨rfl, hb⟩; have HB9 := Lib.hid (HB8.out.trans (hb.mono HB8.out.size)); have HF9 := Lib.hid (HF.out.below (HB8.out.trans (hb.mono HB8.out.size))); obtain ⟨k0, k1, k2, k3, k4, k5⟩ := HF9.out.cells; obtain ⟨⟨z0, z1, z2, z3, z4, z5⟩, y0, y1, y2, y3, y4, y5⟩ := HF9.out.zero; clear hb))
              refine ractof_fin (put6_block HF9.out.res (.int .i64 ra.kind) (.string (S ra.name)) (.slice A6 bz.length c6) (.slice none 0 0) (.int .i64 ra.mem) (.int .i64 ra.fuel)) _ rfl rfl rfl _ ?_
              rw [read_yes HRB.out, HRB.out, ← HRA.out]
              exact ⟨A6, bz.length, c6, none, 0, 0, rfl, (HAT.out.below HB9.out).keep HLO.out.1 HLO.out.2 (Nat.le_of_eq (put6_size _ _ _ _ _ _ _ _).symm) (fun z hz _ => put6_other _ _ _ _ _ _ _ _ _ (by omega)), HLO.out.1.less (by omega), HLO.out.2.less (by omega), put6_below HF9.out.hb _ (Nat.le_refl _) _ _ _ _ _ _⟩
            · rw [decide_eq_false hts] at hcmp
              have HRB : Hid (readB s = false) := Lib.hid (by rw [← HRD.out.1, HMY.out, decide_eq_false hts]; rfl)
              clear hts
              generalize S ra.txt = ts at *
              go_wp2_with (first
                | (go_at_call 33; (with_reducible refine HMA.out.mono ?_); rintro e w8 ⟨rfl, hb⟩; have HB8 := Lib.hid hb; obtain ⟨k0, k1, k2, k3, k4, k5⟩ := (HF.out.below hb).cells; clear hb)
                | (go_at_call 34; (with_reducible refine (HTX.out _ HB8.out).mono ?_); rintro e w9 ⟨rfl, hb⟩; have HF8 := Lib.hid (HF.out.below (HB8.out.trans (hb.mono HB8.out.size))); obtain ⟨⟨z0, z1, z2, z3, z4, z5⟩, y0, y1, y2, y3, y4, y5⟩ := HF8.out.zero; clear hb))
              refine ractof_fin (put6_block HF8.out.res (.int .i64 0) (.string ⟨#[]⟩) (.slice none 0 0) (.slice none 0 0) (.int .i64 0) (.int .i64 0)) _ rfl rfl rfl _ ?_
              rw [read_no HRB.out, HRB.out]
              exact ⟨none, 0, 0, none, 0, 0, rfl, none_at _ 0, (fun h => absurd h (by omega)), (fun h => absurd h (by omega)), put6_below HF8.out.hb _ (Nat.le_refl _) _ _ _ _ _ _⟩
      · have hraE : rA s = ⟨3, nm1, [], [], 0, 0⟩ := by
          unfold rA
          rw [← HKK.out, if_neg (by rw [HLE.out]; omega), if_neg (by omega), if_neg (by omega), if_neg (by omega), if_neg (by omega), if_pos (by omega), HNM.out]
        go_upto_region 24 with fail
        obtain ⟨ra, hra⟩ : ∃ ra, ra = rA s := ⟨_, rfl⟩
        rw [← hra] at HRD
        have HF : Hid (RA w W4 p (spl s) (some x) n ra.kind ra.name none 0 0 none 0 0 ra.mem ra.fuel) := Lib.hid (by rw [hra, hraE]; exact HF4.out)
        have HAT : Hid (ActAt W4 ra none 0 0 none 0 0) := Lib.hid (by rw [hra, hraE]; exact at_plain _ _ _ _ _ HNL.out (by omega) (by omega))
        have HLO : Hid (RLo (w.heap.size + 1) none 0 ∧ RLo (w.heap.size + 1) none 0) := Lib.hid ⟨fun h => absurd h (by omega), fun h => absurd h (by omega)⟩
        have HRA := Lib.hid hra
        clear hraE hra k0 k1 k2 k3 k4 k5
        have HMA := Lib.hid (rmayact_any W4 ra none 0 0 none 0 0 HAT.out)
        obtain ⟨k0, k1, k2, k3, k4, k5⟩ := HF.out.cells
        unfold actC at HMA
        cases hmay : ra.may with
        | false =>
          rw [hmay] at HMA
          have HRB : Hid (readB s = false) := Lib.hid (by rw [← HRD.out.1, hmay]; rfl)
          clear hmay
          go_wp2_with (go_at_call 33; (with_reducible refine HMA.out.mono ?_); rintro e w8 ⟨rfl, hb⟩; have HF8 := Lib.hid (HF.out.below hb); obtain ⟨⟨z0, z1, z2, z3, z4, z5⟩, y0, y1, y2, y3, y4, y5⟩ := HF8.out.zero; clear hb)
          refine ractof_fin (put6_block HF8.out.res (.int .i64 0) (.string ⟨#[]⟩) (.slice none 0 0) (.slice none 0 0) (.int .i64 0) (.int .i64 0)) _ rfl rfl rfl _ ?_
          rw [read_no HRB.out, HRB.out]
          exact ⟨none, 0, 0, none, 0, 0, rfl, none_at _ 0, (fun h => absurd h (by omega)), (fun h => absurd h (by omega)), put6_below HF8.out.hb _ (Nat.le_refl _) _ _ _ _ _ _⟩
        | true =>
          rw [hmay] at HMA
          have HTX := Lib.hid (fun V (hV : Below W4.heap.size W4 V) => ractText_any V ra none 0 0 none 0 0 (HAT.out.below hV) hmay (HT.out.below (HF.out.below hV).hb).t)
          unfold actC at HTX
          have HMY := Lib.hid hmay
          have hcmp := S_ne (l := ra.txt) (m := s)
          clear hmay
          by_cases hts : ra.txt = s
          · rw [decide_eq_true hts] at hcmp
            have HRB : Hid (readB s = true) := Lib.hid (by rw [← HRD.out.1, HMY.out, decide_eq_true hts]; rfl)
            clear hts
            generalize S ra.txt = ts at *
            go_wp2_with (first
              | (go_at_call 33; (with_reducible refine HMA.out.mono ?_); rintro e w8 ⟨rfl, hb⟩; have HB8 := Lib.hid hb; obtain ⟨k0, k1, k2, k3, k4, k5⟩ := (HF.out.below hb).cells; clear hb)
              | (go_at_call 34; (with_reducible refine (HTX.out _ HB8.out).mono ?_); rintro e w9 ⟨rfl, hb⟩; have HB9 := Lib.hid (HB8.out.trans (hb.mono HB8.out.size)); have HF9 := Lib.hid (HF.out.below (HB8.out.trans (hb.mono HB8.out.size))); obtain ⟨k0, k1, k2, k3, k4, k5⟩ := HF9.out.cells; obtain ⟨⟨z0, z1, z2, z3, z4, z5⟩, y0, y1, y2, y3, y4, y5⟩ := HF9.out.zero; clear hb))
            refine ractof_fin (put6_block HF9.out.res (.int .i64 ra.kind) (.string (S ra.name)) (.slice none 0 0) (.slice none 0 0) (.int .i64 ra.mem) (.int .i64 ra.fuel)) _ rfl rfl rfl _ ?_
            rw [read_yes HRB.out, HRB.out, ← HRA.out]
            exact ⟨none, 0, 0, none, 0, 0, rfl, (HAT.out.below HB9.out).keep HLO.out.1 HLO.out.2 (Nat.le_of_eq (put6_size _ _ _ _ _ _ _ _).symm) (fun z hz _ => put6_other _ _ _ _ _ _ _ _ _ (by omega)), HLO.out.1.less (by omega), HLO.out.2.less (by omega), put6_below HF9.out.hb _ (Nat.le_refl _) _ _ _ _ _ _⟩
          · rw [decide_eq_false hts] at hcmp
            have HRB : Hid (readB s = false) := Lib.hid (by rw [← HRD.out.1, HMY.out, decide_eq_false hts]; rfl)
            clear hts
            generalize S ra.txt = ts at *
            go_wp2_with (first
              | (go_at_call 33; (with_reducible refine HMA.out.mono ?_); rintro e w8 ⟨rfl, hb⟩; have HB8 := Lib.hid hb; obtain ⟨k0, k1, k2, k3, k4, k5⟩ := (HF.out.below hb).cells; clear hb)
              | (go_at_call 34; (with_reducible refine (HTX.out _ HB8.out).mono ?_); rintro e w9 ⟨rfl, hb⟩; have HF8 := Lib.hid (HF.out.below (HB8.out.trans (hb.mono HB8.out.size))); obtain ⟨⟨z0, z1, z2, z3, z4, z5⟩, y0, y1, y2, y3, y4, y5⟩ := HF8.out.zero; clear hb))
            refine ractof_fin (put6_block HF8.out.res (.int .i64 0) (.string ⟨#[]⟩) (.slice none 0 0) (.slice none 0 0) (.int .i64 0) (.int .i64 0)) _ rfl rfl rfl _ ?_
            rw [read_no HRB.out, HRB.out]
            exact ⟨none, 0, 0, none, 0, 0, rfl, none_at _ 0, (fun h => absurd h (by omega)), (fun h => absurd h (by omega)), put6_below HF8.out.hb _ (Nat.le_refl _) _ _ _ _ _ _⟩
      · have hraE : rA s = ⟨4, nm1, [], [], 0, 0⟩ := by
          unfold rA
          rw [← HKK.out, if_neg (by rw [HLE.out]; omega), if_neg (by omega), if_neg (by omega), if_neg (by omega), if_neg (by omega), if_pos (by omega), HNM.out]
        go_upto_region 24 with fail
        obtain ⟨ra, hra⟩ : ∃ ra, ra = rA s := ⟨_, rfl⟩
        rw [← hra] at HRD
        have HF : Hid (RA w W4 p (spl s) (some x) n ra.kind ra.name none 0 0 none 0 0 ra.mem ra.fuel) := Lib.hid (by rw [hra, hraE]; exact HF4.out)
        have HAT : Hid (ActAt W4 ra none 0 0 none 0 0) := Lib.hid (by rw [hra, hraE]; exact at_plain _ _ _ _ _ HNL.out (by omega) (by omega))
        have HLO : Hid (RLo (w.heap.size + 1) none 0 ∧ RLo (w.heap.size + 1) none 0) := Lib.hid ⟨fun h => absurd h (by omega), fun h => absurd h (by omega)⟩
        have HRA := Lib.hid hra
        clear hraE hra k0 k1 k2 k3 k4 k5
        have HMA := Lib.hid (rmayact_any W4 ra none 0 0 none 0 0 HAT.out)
        obtain ⟨k0, k1, k2, k3, k4, k5⟩ := HF.out.cells
        unfold actC at HMA
        cases hmay : ra.may with
        | false =>
          rw [hmay] at HMA
          have HRB : Hid (readB s = false) := Lib.hid (by rw [← HRD.out.1, hmay]; rfl)
          clear hmay
          go_wp2_with (go_at_call 33; (with_reducible refine HMA.out.mono ?_); rintro e w8 ⟨rfl, hb⟩; have HF8 := Lib.hid (HF.out.below hb); obtain ⟨⟨z0, z1, z2, z3, z4, z5⟩, y0, y1, y2, y3, y4, y5⟩ := HF8.out.zero; clear hb)
          refine ractof_fin (put6_block HF8.out.res (.int .i64 0) (.string ⟨#[]⟩) (.slice none 0 0) (.slice none 0 0) (.int .i64 0) (.int .i64 0)) _ rfl rfl rfl _ ?_
          rw [read_no HRB.out, HRB.out]
          exact ⟨none, 0, 0, none, 0, 0, rfl, none_at _ 0, (fun h => absurd h (by omega)), (fun h => absurd h (by omega)), put6_below HF8.out.hb _ (Nat.le_refl _) _ _ _ _ _ _⟩
        | true =>
          rw [hmay] at HMA
          have HTX := Lib.hid (fun V (hV : Below W4.heap.size W4 V) => ractText_any V ra none 0 0 none 0 0 (HAT.out.below hV) hmay (HT.out.below (HF.out.below hV).hb).t)
          unfold actC at HTX
          have HMY := Lib.hid hmay
          have hcmp := S_ne (l := ra.txt) (m := s)
          clear hmay
          by_cases hts : ra.txt = s
          · rw [decide_eq_true hts] at hcmp
            have HRB : Hid (readB s = true) := Lib.hid (by rw [← HRD.out.1, HMY.out, decide_eq_true hts]; rfl)
            clear hts
            generalize S ra.txt = ts at *
            go_wp2_with (first
              | (go_at_call 33; (with_reducible refine HMA.out.mono ?_); rintro e w8 ⟨rfl, hb⟩; have HB8 := Lib.hid hb; obtain ⟨k0, k1, k2, k3, k4, k5⟩ := (HF.out.below hb).cells; clear hb)
              | (go_at_call 34; (with_reducible refine (HTX.out _ HB8.out).mono ?_); rintro e w9 ⟨rfl, hb⟩; have HB9 := Lib.hid (HB8.out.trans (hb.mono HB8.out.size)); have HF9 := Lib.hid (HF.out.below (HB8.out.trans (hb.mono HB8.out.size))); obtain ⟨k0, k1, k2, k3, k4, k5⟩ := HF9.out.cells; obtain ⟨⟨z0, z1, z2, z3, z4, z5⟩, y0, y1, y2, y3, y4, y5⟩ := HF9.out.zero; clear hb))
            refine ractof_fin (put6_block HF9.out.res (.int .i64 ra.kind) (.string (S ra.name)) (.slice none 0 0) (.slice none 0 0) (.int .i64 ra.mem) (.int .i64 ra.fuel)) _ rfl rfl rfl _ ?_
            rw [read_yes HRB.out, HRB.out, ← HRA.out]
            exact ⟨none, 0, 0, none, 0, 0, rfl, (HAT.out.below HB9.out).keep HLO.out.1 HLO.out.2 (Nat.le_of_eq (put6_size _ _ _ _ _ _ _ _).symm) (fun z hz _ => put6_other _ _ _ _ _ _ _ _ _ (by omega)), HLO.out.1.less (by omega), HLO.out.2.less (by omega), put6_below HF9.out.hb _ (Nat.le_refl _) _ _ _ _ _ _⟩
          · rw [decide_eq_false hts] at hcmp
            have HRB : Hid (readB s = false) := Lib.hid (by rw [← HRD.out.1, HMY.out, decide_eq_false hts]; rfl)
            clear hts
            generalize S ra.txt = ts at *
            go_wp2_with (first
              | (go_at_call 33; (with_reducible refine HMA.out.mono ?_); rintro e w8 ⟨rfl, hb⟩; have HB8 := Lib.hid hb; obtain ⟨k0, k1, k2, k3, k4, k5⟩ := (HF.out.below hb).cells; clear hb)
              | (go_at_call 34; (with_reducible refine (HTX.out _ HB8.out).mono ?_); rintro e w9 ⟨rfl, hb⟩; have HF8 := Lib.hid (HF.out.below (HB8.out.trans (hb.mono HB8.out.size))); obtain ⟨⟨z0, z1, z2, z3, z4, z5⟩, y0, y1, y2, y3, y4, y5⟩ := HF8.out.zero; clear hb))
            refine ractof_fin (put6_block HF8.out.res (.int .i64 0) (.string ⟨#[]⟩) (.slice none 0 0) (.slice none 0 0) (.int .i64 0) (.int .i64 0)) _ rfl rfl rfl _ ?_
            rw [read_no HRB.out, HRB.out]
            exact ⟨none, 0, 0, none, 0, 0, rfl, none_at _ 0, (fun h => absurd h (by omega)), (fun h => absurd h (by omega)), put6_below HF8.out.hb _ (Nat.le_refl _) _ _ _ _ _ _⟩
      · by_cases hn4 : n = 4
        rotate_left
        · have hn4b : ((n : Int) == 4) = false := by simp; omega
          have hraE : rA s = ⟨5, nm1, [], [], 0, 0⟩ := by
            unfold rA
            rw [← HKK.out, if_neg (by rw [HLE.out]; omega), if_neg (by omega), if_neg (by omega), if_pos rfl, if_neg (by rw [HLE.out]; exact hn4), if_neg (by rw [HLE.out]; exact hn4), HNM.out]
          go_upto_region 24 with fail
          obtain ⟨ra, hra⟩ : ∃ ra, ra = rA s := ⟨_, rfl⟩
          rw [← hra] at HRD
          have HF : Hid (RA w W4 p (spl s) (some x) n ra.kind ra.name none 0 0 none 0 0 ra.mem ra.fuel) := Lib.hid (by rw [hra, hraE]; exact HF4.out)
          have HAT : Hid (ActAt W4 ra none 0 0 none 0 0) := Lib.hid (by rw [hra, hraE]; exact at_plain _ _ _ _ _ HNL.out (by omega) (by omega))
          have HLO : Hid (RLo (w.heap.size + 1) none 0 ∧ RLo (w.heap.size + 1) none 0) := Lib.hid ⟨fun h => absurd h (by omega), fun h => absurd h (by omega)⟩
          have HRA := Lib.hid hra
          clear hraE hra k0 k1 k2 k3 k4 k5
          have HMA := Lib.hid (rmayact_any W4 ra none 0 0 none 0 0 HAT.out)
          obtain ⟨k0, k1, k2, k3, k4, k5⟩ := HF.out.cells
          unfold actC at HMA
          cases hmay : ra.may with
          | false =>
            rw [hmay] at HMA
            have HRB : Hid (readB s = false) := Lib.hid (by rw [← HRD.out.1, hmay]; rfl)
            clear hmay
            go_wp2_with (go_at_call 33; (with_reducible refine HMA.out.mono ?_); rintro e w8 ⟨rfl, hb⟩; have HF8 := Lib.hid (HF.out.below hb); obtain ⟨⟨z0, z1, z2, z3, z4, z5⟩, y0, y1, y2, y3, y4, y5⟩ := HF8.out.zero; clear hb)
            refine ractof_fin (put6_block HF8.out.res (.int .i64 0) (.string ⟨#[]⟩) (.slice none 0 0) (.slice none 0 0) (.int .i64 0) (.int .i64 0)) _ rfl rfl rfl _ ?_
            rw [read_no HRB.out, HRB.out]
            exact ⟨none, 0, 0, none, 0, 0, rfl, none_at _ 0, (fun h => absurd h (by omega)), (fun h => absurd h (by omega)), put6_below HF8.out.hb _ (Nat.le_refl _) _ _ _ _ _ _⟩
          | true =>
            rw [hmay] at HMA
            have HTX := Lib.hid (fun V (hV : Below W4.heap.size W4 V) => ractText_any V ra none 0 0 none 0 0 (HAT.out.below hV) hmay (HT.out.below (HF.out.below hV).hb).t)
            unfold actC at HTX
            have HMY := Lib.hid hmay
            have hcmp := S_ne (l := ra.txt) (m := s)
            clear hmay
            by_cases hts : ra.txt = s
            · rw [decide_eq_true hts] at hcmp
              have HRB : Hid (readB s = true) := Lib.hid (by rw [← HRD.out.1, HMY.out, decide_eq_true hts]; rfl)
              clear hts
              generalize S ra.txt = ts at *
              go_wp2_with (first
                | (go_at_call 33; (with_reducible refine HMA.out.mono ?_); rintro e w8 ⟨rfl, hb⟩; have HB8 := Lib.hid hb; obtain ⟨k0, k1, k2, k3, k4, k5⟩ := (HF.out.below hb).cells; clear hb)
                | (go_at_call 34; (with_reducible refine (HTX.out _ HB8.out).mono ?_); rintro e w9 ⟨rfl, hb⟩; have HB9 := Lib.hid (HB8.out.trans (hb.mono HB8.out.size)); have HF9 := Lib.hid (HF.out.below (HB8.out.trans (hb.mono HB8.out.size))); obtain ⟨k0, k1, k2, k3, k4, k5⟩ := HF9.out.cells; obtain ⟨⟨z0, z1, z2, z3, z4, z5⟩, y0, y1, y2, y3, y4, y5⟩ := HF9.out.zero; clear hb))
              refine ractof_fin (put6_block HF9.out.res (.int .i64 ra.kind) (.string (S ra.name)) (.slice none 0 0) (.slice none 0 0) (.int .i64 ra.mem) (.int .i64 ra.fuel)) _ rfl rfl rfl _ ?_
              rw [read_yes HRB.out, HRB.out, ← HRA.out]
              exact ⟨none, 0, 0, none, 0, 0, rfl, (HAT.out.below HB9.out).keep HLO.out.1 HLO.out.2 (Nat.le_of_eq (put6_size _ _ _ _ _ _ _ _).symm) (fun z hz _ => put6_other _ _ _ _ _ _ _ _ _ (by omega)), HLO.out.1.less (by omega), HLO.out.2.less (by omega), put6_below HF9.out.hb _ (Nat.le_refl _) _ _ _ _ _ _⟩
            · rw [decide_eq_false hts] at hcmp
              have HRB : Hid (readB s = false) := Lib.hid (by rw [← HRD.out.1, HMY.out, decide_eq_false hts]; rfl)
              clear hts
              generalize S ra.txt = ts at *
              go_wp2_with (first
                | (go_at_call 33; (with_reducible refine HMA.out.mono ?_); rintro e w8 ⟨rfl, hb⟩; have HB8 := Lib.hid hb; obtain ⟨k0, k1, k2, k3, k4, k5⟩ := (HF.out.below hb).cells; clear hb)
                | (go_at_call 34; (with_reducible refine (HTX.out _ HB8.out).mono ?_); rintro e w9 ⟨rfl, hb⟩; have HF8 := Lib.hid (HF.out.below (HB8.out.trans (hb.mono HB8.out.size))); obtain ⟨⟨z0, z1, z2, z3, z4, z5⟩, y0, y1, y2, y3, y4, y5⟩ := HF8.out.zero; clear hb))
              refine ractof_fin (put6_block HF8.out.res (.int .i64 0) (.string ⟨#[]⟩) (.slice none 0 0) (.slice none 0 0) (.int .i64 0) (.int .i64 0)) _ rfl rfl rfl _ ?_
              rw [read_no HRB.out, HRB.out]
              exact ⟨none, 0, 0, none, 0, 0, rfl, none_at _ 0, (fun h => absurd h (by omega)), (fun h => absurd h (by omega)), put6_below HF8.out.hb _ (Nat.le_refl _) _ _ _ _ _ _⟩
        subst hn4
        have HRF4 := HF4
        have hw2 := fun V (hV : RA w V p (spl s) (some x) 4 5 nm1 none 0 0 none 0 0 0 0) => hV.word (j := 2) (by omega)
        clear hw2
        have HW2 : Hid (∀ (V : World) (mm ff : Int), RA w V p (spl s) (some x) 4 5 nm1 none 0 0 none 0 0 mm ff → V.cell? ⟨x.block, x.off + 2, none⟩ = some (.string (S (nthL (spl s) 2))) ∧ V.cell? ⟨x.block, x.off + 3, none⟩ = some (.string (S (nthL (spl s) 3)))) := Lib.hid fun V mm ff hV => by
          obtain ⟨y, e, h1⟩ := hV.word (j := 2) (by omega)
          cases e
          obtain ⟨y, e, h2⟩ := hV.word (j := 3) (by omega)
          cases e
          exact ⟨h1, h2⟩
        have HNA : Hid (∀ V : World, Tb V → Calls Tryz.prog 32 #[.string (S (nthL (spl s) 2))] V fun e w' => e = .returned (.int .i64 (numR (nthL (spl s) 2))) ∧ Below V.heap.size V w') := Lib.hid fun V hV => rnumber_any V (nthL (spl s) 2) (by have := nth_len s 2; omega) hV
        have HNB : Hid (∀ V : World, Tb V → Calls Tryz.prog 32 #[.string (S (nthL (spl s) 3))] V fun e w' => e = .returned (.int .i64 (numR (nthL (spl s) 3))) ∧ Below V.heap.size V w') := Lib.hid fun V hV => rnumber_any V (nthL (spl s) 3) (by have := nth_len s 3; omega) hV
        have HBD := Lib.hid (And.intro (numR_bd (nthL (spl s) 2)) (numR_bd (nthL (spl s) 3)))
        obtain ⟨m2, hm2⟩ : ∃ m2, m2 = numR (nthL (spl s) 2) := ⟨_, rfl⟩
        obtain ⟨f3, hf3⟩ : ∃ f3, f3 = numR (nthL (spl s) 3) := ⟨_, rfl⟩
        rw [← hm2] at HNA HBD
        rw [← hf3] at HNB HBD
        have HMF := Lib.hid (And.intro hm2 hf3)
        generalize S (nthL (spl s) 2) = sw2 at *
        generalize S (nthL (spl s) 3) = sw3 at *
        have hraE : rA s = ⟨5, nm1, [], [], m2, f3⟩ := by
          unfold rA
          rw [← HKK.out, if_neg (by rw [HLE.out]; omega), if_neg (by omega), if_neg (by omega), if_pos rfl, if_pos HLE.out, if_pos HLE.out, HNM.out, HMF.out.1, HMF.out.2]
        have HRE := Lib.hid hraE
        clear hm2 hf3 hraE HRF4
        go_upto_region 20 with fail
        clear k0 k1 k2 k3 k4 k5
        refine wp_region_inv' 12 rfl (fun L a' w' => ∃ y0 y1 y2 y3 y4 y5 y6 y7 y8 y10 : Value, a' = { tmps := List.toArray ((.string (S s)) :: undef :: (.pointer (some ⟨w.heap.size, 0, none⟩)) :: (.bool false) :: (.slice (some x) 4 c) :: (.pointer (some ⟨p, 0, none⟩)) :: (.int .i64 (7 : Int)) :: undef :: (.string (S s)) :: (.slice (some x) 4 c) :: (.int .i64 (7 : Int)) :: (.bool false) :: u12 :: u13 :: u14 :: u15 :: u16 :: u17 :: u18 :: u19 :: u20 :: u21 :: u22 :: u23 :: u24 :: (.pointer (some ⟨p, 0, none⟩)) :: (.int .i64 5) :: (.bool false) :: (.bool false) :: (.pointer (some ⟨p, 0, none⟩)) :: (.int .i64 5) :: (.bool true) :: (.bool true) :: (.slice (some x) 4 c) :: (.int .i64 (4 : Int)) :: (.bool false) :: (.bool false) :: (.bool false) :: undef :: (.pointer (some ⟨p, 0, none⟩)) :: (.int .i64 5) :: (.bool true) :: (.slice (some x) 4 c) :: (.pointer (some ⟨x.block, x.off + 1, none⟩)) :: (.string (S nm1)) :: (.pointer (some ⟨p, 1, none⟩)) :: (.bool false) :: (.pointer (some ⟨p, 0, none⟩)) :: (.int .i64 5) :: (.bool false) :: (.bool false) :: undef :: undef :: undef :: (.bool false) :: (.bool false) :: undef :: undef :: undef :: undef :: (.bool false) :: undef :: undef :: undef :: undef :: undef :: undef :: undef :: undef :: undef :: undef :: undef :: undef :: undef :: undef :: undef :: undef :: undef :: undef :: undef :: undef :: undef :: undef :: undef :: undef :: undef :: undef :: undef :: undef :: undef :: (.bool false) :: (.pointer (some ⟨p, 0, none⟩)) :: (.int .i64 5) :: (.bool false) :: (.bool false) :: undef :: undef :: undef :: (.bool false) :: undef :: undef :: undef :: undef :: undef :: undef :: undef :: undef :: undef :: undef :: undef :: undef :: undef :: undef :: (.bool true) :: (.pointer (some ⟨p, 0, none⟩)) :: (.int .i64 5) :: (.bool true) :: (.bool true) :: (.slice (some x) 4 c) :: (.int .i64 4) :: (.bool true) :: (.bool true) :: y0 :: y1 :: y2 :: y3 :: y4 :: y5 :: y6 :: y7 :: y8 :: y10 :: undef :: undef :: undef :: undef :: undef :: undef :: undef :: undef :: undef :: undef :: undef :: undef :: undef :: undef :: undef :: undef :: undef :: undef :: undef :: undef :: undef :: undef :: undef :: undef :: undef :: undef :: undef :: undef :: []), defers := [] } ∧ (L 0 = true → y0 = .slice (some x) 4 c) ∧ (L 1 = true → y1 = .pointer (some ⟨x.block, x.off + 2, none⟩)) ∧ (L 2 = true → y2 = .string sw2) ∧ (L 3 = true → y3 = .int .i64 m2) ∧ (L 4 = true → y4 = .slice (some x) 4 c) ∧ (L 5 = true → y5 = .pointer (some ⟨x.block, x.off + 3, none⟩)) ∧ (L 6 = true → y6 = .string sw3) ∧ (L 7 = true → y7 = .int .i64 f3) ∧ (L 8 = true → y8 = .pointer (some ⟨p, 4, none⟩)) ∧ (L 10 = true → y10 = .pointer (some ⟨p, 5, none⟩)) ∧ (∃ mm ff, RA w w' p (spl s) (some x) 4 5 nm1 none 0 0 none 0 0 mm ff ∧ (L 9 = true → mm = m2) ∧ (L 11 = true → ff = f3))) (by kernel_rfl) (by kernel_rfl) ?h0 ?step ?fin
        case h0 => exact ⟨undef, undef, undef, undef, undef, undef, undef, undef, undef, undef, rfl, (fun e => by simp at e), (fun e => by simp at e), (fun e => by simp at e), (fun e => by simp at e), (fun e => by simp at e), (fun e => by simp at e), (fun e => by simp at e), (fun e => by simp at e), (fun e => by simp at e), (fun e => by simp at e), ⟨0, 0, HF4.out.below (Below.refl _ _).drew, (fun e => by simp at e), (fun e => by simp at e)⟩⟩
        case step =>
          rintro i hi L a' w' hLi hcl hdp ⟨y0, y1, y2, y3, y4, y5, y6, y7, y8, y10, rfl, e0, e1, e2, e3, e4, e5, e6, e7, e8, e10, hw0⟩
          have hi2 : i = 0 ∨ i = 1 ∨ i = 2 ∨ i = 3 ∨ i = 4 ∨ i = 5 ∨ i = 6 ∨ i = 7 ∨ i = 8 ∨ i = 9 ∨ i = 10 ∨ i = 11 := by omega
          rcases hi2 with rfl | rfl | rfl | rfl | rfl | rfl | rfl | rfl | rfl | rfl | rfl | rfl
          · have HF0 := Lib.hid hw0
            have E1 := Lib.hid e1; have E2 := Lib.hid e2; have E3 := Lib.hid e3; have E4 := Lib.hid e4; have E5 := Lib.hid e5; have E6 := Lib.hid e6; have E7 := Lib.hid e7; have E8 := Lib.hid e8; have E10 := Lib.hid e10
            clear e0 e1 e2 e3 e4 e5 e6 e7 e8 e10 hw0
            refine wpOp_step rfl (fun K hK => ?_)
            go_simp
            exact hK _ _ ⟨_, _, _, _, _, _, _, _, _, _, rfl, (fun _ => rfl), (fun h => E1.out (by simpa [upOn] using h)), (fun h => E2.out (by simpa [upOn] using h)), (fun h => E3.out (by simpa [upOn] using h)), (fun h => E4.out (by simpa [upOn] using h)), (fun h => E5.out (by simpa [upOn] using h)), (fun h => E6.out (by simpa [upOn] using h)), (fun h => E7.out (by simpa [upOn] using h)), (fun h => E8.out (by simpa [upOn] using h)), (fun h => E10.out (by simpa [upOn] using h)), (by obtain ⟨mm, ff, h1, h2, h3⟩ := HF0.out; exact ⟨mm, ff, h1, (fun h => h2 (by simpa [upOn] using h)), (fun h => h3 (by simpa [upOn] using h))⟩)⟩
          · have HF0 := Lib.hid hw0
            have l0 := (hdp 0 (by kernel_rfl))
            obtain rfl := e0 l0
            have E2 := Lib.hid e2; have E3 := Lib.hid e3; have E4 := Lib.hid e4; have E5 := Lib.hid e5; have E6 := Lib.hid e6; have E7 := Lib.hid e7; have E8 := Lib.hid e8; have E10 := Lib.hid e10
            clear e0 e1 e2 e3 e4 e5 e6 e7 e8 e10 hw0
            refine wpOp_step rfl (fun K hK => ?_)
            go_simp
            exact hK _ _ ⟨_, _, _, _, _, _, _, _, _, _, rfl, (fun _ => rfl), (fun _ => rfl), (fun h => E2.out (by simpa [upOn] using h)), (fun h => E3.out (by simpa [upOn] using h)), (fun h => E4.out (by simpa [upOn] using h)), (fun h => E5.out (by simpa [upOn] using h)), (fun h => E6.out (by simpa [upOn] using h)), (fun h => E7.out (by simpa [upOn] using h)), (fun h => E8.out (by simpa [upOn] using h)), (fun h => E10.out (by simpa [upOn] using h)), (by obtain ⟨mm, ff, h1, h2, h3⟩ := HF0.out; exact ⟨mm, ff, h1, (fun h => h2 (by simpa [upOn] using h)), (fun h => h3 (by simpa [upOn] using h))⟩)⟩
          · have HF0 := Lib.hid hw0
            have l1 := (hdp 1 (by kernel_rfl))
            obtain rfl := e1 l1
            have E0 := Lib.hid e0; have E3 := Lib.hid e3; have E4 := Lib.hid e4; have E5 := Lib.hid e5; have E6 := Lib.hid e6; have E7 := Lib.hid e7; have E8 := Lib.hid e8; have E10 := Lib.hid e10
            clear e0 e1 e2 e3 e4 e5 e6 e7 e8 e10 hw0
            obtain ⟨mm, ff, hR, -, -⟩ := HF0.out
            obtain ⟨w2c, w3c⟩ := HW2.out _ _ _ hR
            refine wpOp_step rfl (fun K hK => ?_)
            go_simp
            exact hK _ _ ⟨_, _, _, _, _, _, _, _, _, _, rfl, (fun h => E0.out (by simpa [upOn] using h)), (fun _ => rfl), (fun _ => rfl), (fun h => E3.out (by simpa [upOn] using h)), (fun h => E4.out (by simpa [upOn] using h)), (fun h => E5.out (by simpa [upOn] using h)), (fun h => E6.out (by simpa [upOn] using h)), (fun h => E7.out (by simpa [upOn] using h)), (fun h => E8.out (by simpa [upOn] using h)), (fun h => E10.out (by simpa [upOn] using h)), (by obtain ⟨mm, ff, h1, h2, h3⟩ := HF0.out; exact ⟨mm, ff, h1, (fun h => h2 (by simpa [upOn] using h)), (fun h => h3 (by simpa [upOn] using h))⟩)⟩
          · have HF0 := Lib.hid hw0
            have l2 := (hdp 2 (by kernel_rfl))
            obtain rfl := e2 l2
            have E0 := Lib.hid e0; have E1 := Lib.hid e1; have E4 := Lib.hid e4; have E5 := Lib.hid e5; have E6 := Lib.hid e6; have E7 := Lib.hid e7; have E8 := Lib.hid e8; have E10 := Lib.hid e10
            clear e0 e1 e2 e3 e4 e5 e6 e7 e8 e10 hw0
            have htb : Tb w' := by obtain ⟨mm, ff, hR, -, -⟩ := HF0.out; exact HT.out.below hR.hb
            refine wpOp_step rfl (fun K hK => ?_)
            go_simp
            refine (HNA.out _ htb).mono ?_
            rintro e v1 ⟨rfl, hb⟩
            exact hK _ _ ⟨_, _, _, _, _, _, _, _, _, _, rfl, (fun h => E0.out (by simpa [upOn] using h)), (fun h => E1.out (by simpa [upOn] using h)), (fun _ => rfl), (fun _ => rfl), (fun h => E4.out (by simpa [upOn] using h)), (fun h => E5.out (by simpa [upOn] using h)), (fun h => E6.out (by simpa [upOn] using h)), (fun h => E7.out (by simpa [upOn] using h)), (fun h => E8.out (by simpa [upOn] using h)), (fun h => E10.out (by simpa [upOn] using h)), (by obtain ⟨mm, ff, h1, h2, h3⟩ := HF0.out; exact ⟨mm, ff, h1.below hb, (fun h => h2 (by simpa [upOn] using h)), (fun h => h3 (by simpa [upOn] using h))⟩)⟩
          · have HF0 := Lib.hid hw0
            have E0 := Lib.hid e0; have E1 := Lib.hid e1; have E2 := Lib.hid e2; have E3 := Lib.hid e3; have E5 := Lib.hid e5; have E6 := Lib.hid e6; have E7 := Lib.hid e7; have E8 := Lib.hid e8; have E10 := Lib.hid e10
            clear e0 e1 e2 e3 e4 e5 e6 e7 e8 e10 hw0
            refine wpOp_step rfl (fun K hK => ?_)
            go_simp
            exact hK _ _ ⟨_, _, _, _, _, _, _, _, _, _, rfl, (fun h => E0.out (by simpa [upOn] using h)), (fun h => E1.out (by simpa [upOn] using h)), (fun h => E2.out (by simpa [upOn] using h)), (fun h => E3.out (by simpa [upOn] using h)), (fun _ => rfl), (fun h => E5.out (by simpa [upOn] using h)), (fun h => E6.out (by simpa [upOn] using h)), (fun h => E7.out (by simpa [upOn] using h)), (fun h => E8.out (by simpa [upOn] using h)), (fun h => E10.out (by simpa [upOn] using h)), (by obtain ⟨mm, ff, h1, h2, h3⟩ := HF0.out; exact ⟨mm, ff, h1, (fun h => h2 (by simpa [upOn] using h)), (fun h => h3 (by simpa [upOn] using h))⟩)⟩
          · have HF0 := Lib.hid hw0
            have l4 := (hdp 4 (by kernel_rfl))
            obtain rfl := e4 l4
            have E0 := Lib.hid e0; have E1 := Lib.hid e1; have E2 := Lib.hid e2; have E3 := Lib.hid e3; have E6 := Lib.hid e6; have E7 := Lib.hid e7; have E8 := Lib.hid e8; have E10 := Lib.hid e10
            clear e0 e1 e2 e3 e4 e5 e6 e7 e8 e10 hw0
            refine wpOp_step rfl (fun K hK => ?_)
            go_simp
            exact hK _ _ ⟨_, _, _, _, _, _, _, _, _, _, rfl, (fun h => E0.out (by simpa [upOn] using h)), (fun h => E1.out (by simpa [upOn] using h)), (fun h => E2.out (by simpa [upOn] using h)), (fun h => E3.out (by simpa [upOn] using h)), (fun _ => rfl), (fun _ => rfl), (fun h => E6.out (by simpa [upOn] using h)), (fun h => E7.out (by simpa [upOn] using h)), (fun h => E8.out (by simpa [upOn] using h)), (fun h => E10.out (by simpa [upOn] using h)), (by obtain ⟨mm, ff, h1, h2, h3⟩ := HF0.out; exact ⟨mm, ff, h1, (fun h => h2 (by simpa [upOn] using h)), (fun h => h3 (by simpa [upOn] using h))⟩)⟩
          · have HF0 := Lib.hid hw0
            have l5 := (hdp 5 (by kernel_rfl))
            obtain rfl := e5 l5
            have E0 := Lib.hid e0; have E1 := Lib.hid e1; have E2 := Lib.hid e2; have E3 := Lib.hid e3; have E4 := Lib.hid e4; have E7 := Lib.hid e7; have E8 := Lib.hid e8; have E10 := Lib.hid e10
            clear e0 e1 e2 e3 e4 e5 e6 e7 e8 e10 hw0
            obtain ⟨mm, ff, hR, -, -⟩ := HF0.out
            obtain ⟨w2c, w3c⟩ := HW2.out _ _ _ hR
            refine wpOp_step rfl (fun K hK => ?_)
            go_simp
            exact hK _ _ ⟨_, _, _, _, _, _, _, _, _, _, rfl, (fun h => E0.out (by simpa [upOn] using h)), (fun h => E1.out (by simpa [upOn] using h)), (fun h => E2.out (by simpa [upOn] using h)), (fun h => E3.out (by simpa [upOn] using h)), (fun h => E4.out (by simpa [upOn] using h)), (fun _ => rfl), (fun _ => rfl), (fun h => E7.out (by simpa [upOn] using h)), (fun h => E8.out (by simpa [upOn] using h)), (fun h => E10.out (by simpa [upOn] using h)), (by obtain ⟨mm, ff, h1, h2, h3⟩ := HF0.out; exact ⟨mm, ff, h1, (fun h => h2 (by simpa [upOn] using h)), (fun h => h3 (by simpa [upOn] using h))⟩)⟩
          · have HF0 := Lib.hid hw0
            have l6 := (hdp 6 (by kernel_rfl))
            obtain rfl := e6 l6
            have E0 := Lib.hid e0; have E1 := Lib.hid e1; have E2 := Lib.hid e2; have E3 := Lib.hid e3; have E4 := Lib.hid e4; have E5 := Lib.hid e5; have E8 := Lib.hid e8; have E10 := Lib.hid e10
            clear e0 e1 e2 e3 e4 e5 e6 e7 e8 e10 hw0
            have htb : Tb w' := by obtain ⟨mm, ff, hR, -, -⟩ := HF0.out; exact HT.out.below hR.hb
            refine wpOp_step rfl (fun K hK => ?_)
            go_simp
            refine (HNB.out _ htb).mono ?_
            rintro e v1 ⟨rfl, hb⟩
            exact hK _ _ ⟨_, _, _, _, _, _, _, _, _, _, rfl, (fun h => E0.out (by simpa [upOn] using h)), (fun h => E1.out (by simpa [upOn] using h)), (fun h => E2.out (by simpa [upOn] using h)), (fun h => E3.out (by simpa [upOn] using h)), (fun h => E4.out (by simpa [upOn] using h)), (fun h => E5.out (by simpa [upOn] using h)), (fun _ => rfl), (fun _ => rfl), (fun h => E8.out (by simpa [upOn] using h)), (fun h => E10.out (by simpa [upOn] using h)), (by obtain ⟨mm, ff, h1, h2, h3⟩ := HF0.out; exact ⟨mm, ff, h1.below hb, (fun h => h2 (by simpa [upOn] using h)), (fun h => h3 (by simpa [upOn] using h))⟩)⟩
          · have HF0 := Lib.hid hw0
            have E0 := Lib.hid e0; have E1 := Lib.hid e1; have E2 := Lib.hid e2; have E3 := Lib.hid e3; have E4 := Lib.hid e4; have E5 := Lib.hid e5; have E6 := Lib.hid e6; have E7 := Lib.hid e7; have E10 := Lib.hid e10
            clear e0 e1 e2 e3 e4 e5 e6 e7 e8 e10 hw0
            refine wpOp_step rfl (fun K hK => ?_)
            go_simp
            exact hK _ _ ⟨_, _, _, _, _, _, _, _, _, _, rfl, (fun h => E0.out (by simpa [upOn] using h)), (fun h => E1.out (by simpa [upOn] using h)), (fun h => E2.out (by simpa [upOn] using h)), (fun h => E3.out (by simpa [upOn] using h)), (fun h => E4.out (by simpa [upOn] using h)), (fun h => E5.out (by simpa [upOn] using h)), (fun h => E6.out (by simpa [upOn] using h)), (fun h => E7.out (by simpa [upOn] using h)), (fun _ => rfl), (fun h => E10.out (by simpa [upOn] using h)), (by obtain ⟨mm, ff, h1, h2, h3⟩ := HF0.out; exact ⟨mm, ff, h1, (fun h => h2 (by simpa [upOn] using h)), (fun h => h3 (by simpa [upOn] using h))⟩)⟩
          · have HF0 := Lib.hid hw0
            have l3 := (hdp 3 (by kernel_rfl))
            have l8 := (hdp 8 (by kernel_rfl))
            obtain rfl := e3 l3
            obtain rfl := e8 l8
            have E0 := Lib.hid e0; have E1 := Lib.hid e1; have E2 := Lib.hid e2; have E4 := Lib.hid e4; have E5 := Lib.hid e5; have E6 := Lib.hid e6; have E7 := Lib.hid e7; have E10 := Lib.hid e10
            clear e0 e1 e2 e3 e4 e5 e6 e7 e8 e10 hw0
            obtain ⟨mm, ff, hR, h2, h3⟩ := HF0.out
            obtain ⟨-, -, -, -, q4, q5⟩ := hR.cells
            have fz := hR.frz 4
            have HR9 := Lib.hid (And.intro hR (And.intro h2 h3))
            clear hR h2 h3
            refine wpOp_step rfl (fun K hK => ?_)
            go_simp
            exact hK _ _ ⟨_, _, _, _, _, _, _, _, _, _, rfl, (fun h => E0.out (by simpa [upOn] using h)), (fun h => E1.out (by simpa [upOn] using h)), (fun h => E2.out (by simpa [upOn] using h)), (fun _ => rfl), (fun h => E4.out (by simpa [upOn] using h)), (fun h => E5.out (by simpa [upOn] using h)), (fun h => E6.out (by simpa [upOn] using h)), (fun h => E7.out (by simpa [upOn] using h)), (fun _ => rfl), (fun h => E10.out (by simpa [upOn] using h)), ⟨m2, ff, HR9.out.1.put 4 _ rfl, (fun _ => rfl), (fun h => HR9.out.2.2 (by simpa [upOn] using h))⟩⟩
          · have HF0 := Lib.hid hw0
            have E0 := Lib.hid e0; have E1 := Lib.hid e1; have E2 := Lib.hid e2; have E3 := Lib.hid e3; have E4 := Lib.hid e4; have E5 := Lib.hid e5; have E6 := Lib.hid e6; have E7 := Lib.hid e7; have E8 := Lib.hid e8
            clear e0 e1 e2 e3 e4 e5 e6 e7 e8 e10 hw0
            refine wpOp_step rfl (fun K hK => ?_)
            go_simp
            exact hK _ _ ⟨_, _, _, _, _, _, _, _, _, _, rfl, (fun h => E0.out (by simpa [upOn] using h)), (fun h => E1.out (by simpa [upOn] using h)), (fun h => E2.out (by simpa [upOn] using h)), (fun h => E3.out (by simpa [upOn] using h)), (fun h => E4.out (by simpa [upOn] using h)), (fun h => E5.out (by simpa [upOn] using h)), (fun h => E6.out (by simpa [upOn] using h)), (fun h => E7.out (by simpa [upOn] using h)), (fun h => E8.out (by simpa [upOn] using h)), (fun _ => rfl), (by obtain ⟨mm, ff, h1, h2, h3⟩ := HF0.out; exact ⟨mm, ff, h1, (fun h => h2 (by simpa [upOn] using h)), (fun h => h3 (by simpa [upOn] using h))⟩)⟩
          · have HF0 := Lib.hid hw0
            have l7 := (hdp 7 (by kernel_rfl))
            have l10 := (hdp 10 (by kernel_rfl))
            obtain rfl := e7 l7
            obtain rfl := e10 l10
            have E0 := Lib.hid e0; have E1 := Lib.hid e1; have E2 := Lib.hid e2; have E3 := Lib.hid e3; have E4 := Lib.hid e4; have E5 := Lib.hid e5; have E6 := Lib.hid e6; have E8 := Lib.hid e8
            clear e0 e1 e2 e3 e4 e5 e6 e7 e8 e10 hw0
            obtain ⟨mm, ff, hR, h2, h3⟩ := HF0.out
            obtain ⟨-, -, -, -, q4, q5⟩ := hR.cells
            have fz := hR.frz 5
            have HR9 := Lib.hid (And.intro hR (And.intro h2 h3))
            clear hR h2 h3
            refine wpOp_step rfl (fun K hK => ?_)
            go_simp
            exact hK _ _ ⟨_, _, _, _, _, _, _, _, _, _, rfl, (fun h => E0.out (by simpa [upOn] using h)), (fun h => E1.out (by simpa [upOn] using h)), (fun h => E2.out (by simpa [upOn] using h)), (fun h => E3.out (by simpa [upOn] using h)), (fun h => E4.out (by simpa [upOn] using h)), (fun h => E5.out (by simpa [upOn] using h)), (fun h => E6.out (by simpa [upOn] using h)), (fun _ => rfl), (fun h => E8.out (by simpa [upOn] using h)), (fun _ => rfl), ⟨mm, f3, HR9.out.1.put 5 _ rfl, (fun h => HR9.out.2.1 (by simpa [upOn] using h)), (fun _ => rfl)⟩⟩
        case fin =>
          rintro L a' w' hall ⟨y0, y1, y2, y3, y4, y5, y6, y7, y8, y10, rfl, e0, e1, e2, e3, e4, e5, e6, e7, e8, e10, hw0⟩
          obtain rfl := e0 (hall 0 (by omega))
          obtain rfl := e1 (hall 1 (by omega))
          obtain rfl := e2 (hall 2 (by omega))
          obtain rfl := e3 (hall 3 (by omega))
          obtain rfl := e4 (hall 4 (by omega))
          obtain rfl := e5 (hall 5 (by omega))
          obtain rfl := e6 (hall 6 (by omega))
          obtain rfl := e7 (hall 7 (by omega))
          obtain rfl := e8 (hall 8 (by omega))
          obtain rfl := e10 (hall 10 (by omega))
          obtain ⟨mm, ff, hR, h2, h3⟩ := hw0
          rw [h2 (hall 9 (by omega)), h3 (hall 11 (by omega))] at hR
          clear h2 h3 hall
          have HR7 := Lib.hid hR
          obtain ⟨k0, k1, k2, k3, k4, k5⟩ := HR7.out.cells
          clear hR
          skip
          go_upto_region 24 with fail
          obtain ⟨ra, hra⟩ : ∃ ra, ra = rA s := ⟨_, rfl⟩
          rw [← hra] at HRD
          have HF : Hid (RA w w' p (spl s) (some x) 4 ra.kind ra.name none 0 0 none 0 0 ra.mem ra.fuel) := Lib.hid (by rw [hra, HRE.out]; exact HR7.out)
          have HAT : Hid (ActAt w' ra none 0 0 none 0 0) := Lib.hid (by rw [hra, HRE.out]; have := HBD.out; exact at_plain _ _ _ _ _ HNL.out (by omega) (by omega))
          have HLO : Hid (RLo (w.heap.size + 1) none 0 ∧ RLo (w.heap.size + 1) none 0) := Lib.hid ⟨fun h => absurd h (by omega), fun h => absurd h (by omega)⟩
          have HRA := Lib.hid hra
          clear hra k0 k1 k2 k3 k4 k5
          have HMA := Lib.hid (rmayact_any w' ra none 0 0 none 0 0 HAT.out)
          obtain ⟨k0, k1, k2, k3, k4, k5⟩ := HF.out.cells
          unfold actC at HMA
          cases hmay : ra.may with
          | false =>
            rw [hmay] at HMA
            have HRB : Hid (readB s = false) := Lib.hid (by rw [← HRD.out.1, hmay]; rfl)
            clear hmay
            go_wp2_with (go_at_call 33; (with_reducible refine HMA.out.mono ?_); rintro e w8 ⟨rfl, hb⟩; have HF8 := Lib.hid (HF.out.below hb); obtain ⟨⟨z0, z1, z2, z3, z4, z5⟩, y0, y1, y2, y3, y4, y5⟩ := HF8.out.zero; clear hb)
            refine ractof_fin (put6_block HF8.out.res (.int .i64 0) (.string ⟨#[]⟩) (.slice none 0 0) (.slice none 0 0) (.int .i64 0) (.int .i64 0)) _ rfl rfl rfl _ ?_
            rw [read_no HRB.out, HRB.out]
            exact ⟨none, 0, 0, none, 0, 0, rfl, none_at _ 0, (fun h => absurd h (by omega)), (fun h => absurd h (by omega)), put6_below HF8.out.hb _ (Nat.le_refl _) _ _ _ _ _ _⟩
          | true =>
            rw [hmay] at HMA
            have HTX := Lib.hid (fun V (hV : Below w'.heap.size w' V) => ractText_any V ra none 0 0 none 0 0 (HAT.out.below hV) hmay (HT.out.below (HF.out.below hV).hb).t)
            unfold actC at HTX
            have HMY := Lib.hid hmay
            have hcmp := S_ne (l := ra.txt) (m := s)
            clear hmay
            by_cases hts : ra.txt = s
            · rw [decide_eq_true hts] at hcmp
              have HRB : Hid (readB s = true) := Lib.hid (by rw [← HRD.out.1, HMY.out, decide_eq_true hts]; rfl)
              clear hts
              generalize S ra.txt = ts at *
              go_wp2_with (first
                | (go_at_call 33; (with_reducible refine HMA.out.mono ?_); rintro e w8 ⟨rfl, hb⟩; have HB8 := Lib.hid hb; obtain ⟨k0, k1, k2, k3, k4, k5⟩ := (HF.out.below hb).cells; clear hb)
                | (go_at_call 34; (with_reducible refine (HTX.out _ HB8.out).mono ?_); rintro e w9 ⟨rfl, hb⟩; have HB9 := Lib.hid (HB8.out.trans (hb.mono HB8.out.size)); have HF9 := Lib.hid (HF.out.below (HB8.out.trans (hb.mono HB8.out.size))); obtain ⟨k0, k1, k2, k3, k4, k5⟩ := HF9.out.cells; obtain ⟨⟨z0, z1, z2, z3, z4, z5⟩, y0, y1, y2, y3, y4, y5⟩ := HF9.out.zero; clear hb))
              refine ractof_fin (put6_block HF9.out.res (.int .i64 ra.kind) (.string (S ra.name)) (.slice none 0 0) (.slice none 0 0) (.int .i64 ra.mem) (.int .i64 ra.fuel)) _ rfl rfl rfl _ ?_
              rw [read_yes HRB.out, HRB.out, ← HRA.out]
              exact ⟨none, 0, 0, none, 0, 0, rfl, (HAT.out.below HB9.out).keep HLO.out.1 HLO.out.2 (Nat.le_of_eq (put6_size _ _ _ _ _ _ _ _).symm) (fun z hz _ => put6_other _ _ _ _ _ _ _ _ _ (by omega)), HLO.out.1.less (by omega), HLO.out.2.less (by omega), put6_below HF9.out.hb _ (Nat.le_refl _) _ _ _ _ _ _⟩
            · rw [decide_eq_false hts] at hcmp
              have HRB : Hid (readB s = false) := Lib.hid (by rw [← HRD.out.1, HMY.out, decide_eq_false hts]; rfl)
              clear hts
              generalize S ra.txt = ts at *
              go_wp2_with (first
                | (go_at_call 33; (with_reducible refine HMA.out.mono ?_); rintro e w8 ⟨rfl, hb⟩; have HB8 := Lib.hid hb; obtain ⟨k0, k1, k2, k3, k4, k5⟩ := (HF.out.below hb).cells; clear hb)
                | (go_at_call 34; (with_reducible refine (HTX.out _ HB8.out).mono ?_); rintro e w9 ⟨rfl, hb⟩; have HF8 := Lib.hid (HF.out.below (HB8.out.trans (hb.mono HB8.out.size))); obtain ⟨⟨z0, z1, z2, z3, z4, z5⟩, y0, y1, y2, y3, y4, y5⟩ := HF8.out.zero; clear hb))
              refine ractof_fin (put6_block HF8.out.res (.int .i64 0) (.string ⟨#[]⟩) (.slice none 0 0) (.slice none 0 0) (.int .i64 0) (.int .i64 0)) _ rfl rfl rfl _ ?_
              rw [read_no HRB.out, HRB.out]
              exact ⟨none, 0, 0, none, 0, 0, rfl, none_at _ 0, (fun h => absurd h (by omega)), (fun h => absurd h (by omega)), put6_below HF8.out.hb _ (Nat.le_refl _) _ _ _ _ _ _⟩
      · by_cases hn4 : (4 : Int) ≤ (n : Int)
        rotate_left
        · skip
          have hraE : rA s = ⟨6, nm1, [], [], 0, 0⟩ := by
            unfold rA
            rw [← HKK.out, if_neg (by rw [HLE.out]; omega), if_neg (by omega), if_neg (by omega), if_neg (by omega), if_pos rfl, if_neg (by rw [HLE.out]; omega), if_neg (by rw [HLE.out]; omega), HNM.out]
          go_upto_region 24 with fail
          obtain ⟨ra, hra⟩ : ∃ ra, ra = rA s := ⟨_, rfl⟩
          rw [← hra] at HRD
          have HF : Hid (RA w W4 p (spl s) (some x) n ra.kind ra.name none 0 0 none 0 0 ra.mem ra.fuel) := Lib.hid (by rw [hra, hraE]; exact HF4.out)
          have HAT : Hid (ActAt W4 ra none 0 0 none 0 0) := Lib.hid (by rw [hra, hraE]; exact at_plain _ _ _ _ _ HNL.out (by omega) (by omega))
          have HLO : Hid (RLo (w.heap.size + 1) none 0 ∧ RLo (w.heap.size + 1) none 0) := Lib.hid ⟨fun h => absurd h (by omega), fun h => absurd h (by omega)⟩
          have HRA := Lib.hid hra
          clear hraE hra k0 k1 k2 k3 k4 k5
          have HMA := Lib.hid (rmayact_any W4 ra none 0 0 none 0 0 HAT.out)
          obtain ⟨k0, k1, k2, k3, k4, k5⟩ := HF.out.cells
          unfold actC at HMA
          cases hmay : ra.may with
          | false =>
            rw [hmay] at HMA
            have HRB : Hid (readB s = false) := Lib.hid (by rw [← HRD.out.1, hmay]; rfl)
            clear hmay
            go_wp2_with (go_at_call 33; (with_reducible refine HMA.out.mono ?_); rintro e w8 ⟨rfl, hb⟩; have HF8 := Lib.hid (HF.out.below hb); obtain ⟨⟨z0, z1, z2, z3, z4, z5⟩, y0, y1, y2, y3, y4, y5⟩ := HF8.out.zero; clear hb)
            refine ractof_fin (put6_block HF8.out.res (.int .i64 0) (.string ⟨#[]⟩) (.slice none 0 0) (.slice none 0 0) (.int .i64 0) (.int .i64 0)) _ rfl rfl rfl _ ?_
            rw [read_no HRB.out, HRB.out]
            exact ⟨none, 0, 0, none, 0, 0, rfl, none_at _ 0, (fun h => absurd h (by omega)), (fun h => absurd h (by omega)), put6_below HF8.out.hb _ (Nat.le_refl _) _ _ _ _ _ _⟩
          | true =>
            rw [hmay] at HMA
            have HTX := Lib.hid (fun V (hV : Below W4.heap.size W4 V) => ractText_any V ra none 0 0 none 0 0 (HAT.out.below hV) hmay (HT.out.below (HF.out.below hV).hb).t)
            unfold actC at HTX
            have HMY := Lib.hid hmay
            have hcmp := S_ne (l := ra.txt) (m := s)
            clear hmay
            by_cases hts : ra.txt = s
            · rw [decide_eq_true hts] at hcmp
              have HRB : Hid (readB s = true) := Lib.hid (by rw [← HRD.out.1, HMY.out, decide_eq_true hts]; rfl)
              clear hts
              generalize S ra.txt = ts at *
              go_wp2_with (first
                | (go_at_call 33; (with_reducible refine HMA.out.mono ?_); rintro e w8 ⟨rfl, hb⟩; have HB8 := Lib.hid hb; obtain ⟨k0, k1, k2, k3, k4, k5⟩ := (HF.out.below hb).cells; clear hb)
                | (go_at_call 34; (with_reducible refine (HTX.out _ HB8.out).mono ?_); rintro e w9 ⟨rfl, hb⟩; have HB9 := Lib.hid (HB8.out.trans (hb.mono HB8.out.size)); have HF9 := Lib.hid (HF.out.below (HB8.out.trans (hb.mono HB8.out.size))); obtain ⟨k0, k1, k2, k3, k4, k5⟩ := HF9.out.cells; obtain ⟨⟨z0, z1, z2, z3, z4, z5⟩, y0, y1, y2, y3, y4, y5⟩ := HF9.out.zero; clear hb))
              refine ractof_fin (put6_block HF9.out.res (.int .i64 ra.kind) (.string (S ra.name)) (.slice none 0 0) (.slice none 0 0) (.int .i64 ra.mem) (.int .i64 ra.fuel)) _ rfl rfl rfl _ ?_
              rw [read_yes HRB.out, HRB.out, ← HRA.out]
              exact ⟨none, 0, 0, none, 0, 0, rfl, (HAT.out.below HB9.out).keep HLO.out.1 HLO.out.2 (Nat.le_of_eq (put6_size _ _ _ _ _ _ _ _).symm) (fun z hz _ => put6_other _ _ _ _ _ _ _ _ _ (by omega)), HLO.out.1.less (by omega), HLO.out.2.less (by omega), put6_below HF9.out.hb _ (Nat.le_refl _) _ _ _ _ _ _⟩
            · rw [decide_eq_false hts] at hcmp
              have HRB : Hid (readB s = false) := Lib.hid (by rw [← HRD.out.1, HMY.out, decide_eq_false hts]; rfl)
              clear hts
              generalize S ra.txt = ts at *
              go_wp2_with (first
                | (go_at_call 33; (with_reducible refine HMA.out.mono ?_); rintro e w8 ⟨rfl, hb⟩; have HB8 := Lib.hid hb; obtain ⟨k0, k1, k2, k3, k4, k5⟩ := (HF.out.below hb).cells; clear hb)
                | (go_at_call 34; (with_reducible refine (HTX.out _ HB8.out).mono ?_); rintro e w9 ⟨rfl, hb⟩; have HF8 := Lib.hid (HF.out.below (HB8.out.trans (hb.mono HB8.out.size))); obtain ⟨⟨z0, z1, z2, z3, z4, z5⟩, y0, y1, y2, y3, y4, y5⟩ := HF8.out.zero; clear hb))
              refine ractof_fin (put6_block HF8.out.res (.int .i64 0) (.string ⟨#[]⟩) (.slice none 0 0) (.slice none 0 0) (.int .i64 0) (.int .i64 0)) _ rfl rfl rfl _ ?_
              rw [read_no HRB.out, HRB.out]
              exact ⟨none, 0, 0, none, 0, 0, rfl, none_at _ 0, (fun h => absurd h (by omega)), (fun h => absurd h (by omega)), put6_below HF8.out.hb _ (Nat.le_refl _) _ _ _ _ _ _⟩
        obtain ⟨x2, hx2e, hx2⟩ := HF4.out.word (j := 2) (by omega)
        cases hx2e
        replace hx2 : W4.cell? ⟨x.block, x.off + 2, none⟩ = some (.string (S (nthL (spl s) 2))) := hx2
        have h2n : (2 : Int) < (n : Int) := by omega
        have HNR := Lib.hid (rnumber_any W4 (nthL (spl s) 2) (by have := nth_len s 2; omega) (HT.out.below HF4.out.hb))
        have HBD := Lib.hid (numR_bd (nthL (spl s) 2))
        obtain ⟨f2, hf2⟩ : ∃ f2, f2 = numR (nthL (spl s) 2) := ⟨_, rfl⟩
        rw [← hf2] at HNR HBD
        have HF2 := Lib.hid hf2
        generalize S (nthL (spl s) 2) = sw2 at *
        clear hf2
        go_upto_region 23 with (go_at_call 32; (with_reducible refine HNR.out.mono ?_); rintro e w5 ⟨rfl, hb⟩; have HF5 := Lib.hid (HF4.out.below hb); have f5 := HF5.out.frz 5; clear k0 k1 k2 k3 k4 k5; obtain ⟨k0, k1, k2, k3, k4, k5⟩ := HF5.out.cells; clear hb)
        have hf6 := HF5.out.put 5 (.int .i64 f2) (k' := 6) (nm' := nm1) (bA' := none) (bn' := 0) (bc' := 0) (nA' := none) (nn' := 0) (nc' := 0) (m' := 0) (f' := f2) rfl
        generalize w5.setCell ⟨p, 5, none⟩ (.int .i64 f2) = W6 at hf6 ⊢
        have HF6 := Lib.hid hf6
        have f3 := HF6.out.frz 3
        clear hf6 k0 k1 k2 k3 k4 k5 f5 hx2
        obtain ⟨k0, k1, k2, k3, k4, k5⟩ := HF6.out.cells
        have hsl : ∀ V : World, (Instr.slice 25 (.slice (some x) n c) (some (.int .i64 3)) none none).run Tryz.prog V = .ok (.slice (some ⟨x.block, x.off + 3, none⟩) (n - 3) (c - 3)) V := fun V => by
          have h1 := HN2.out.2.1
          obtain ⟨is, his, hs0, hs1, hs2⟩ := info_parts str_info
          have h3 : 3 ≤ n := by omega
          have h4 : ¬ c = 3 := by omega
          have h5 : (3 : Int) ≤ (n : Int) := by omega
          simp [Instr.slice, Instr.sliceBounds, Instr.sliceBound, asIntOf, run_underlying (Tryz.underlying25), go_sem, h3, h4, h5, sizeOf, typeInfo, his, hs1]
        have hraE : rA s = ⟨6, nm1, [], (spl s).drop 3, 0, f2⟩ := by
          unfold rA
          rw [← HKK.out, if_neg (by rw [HLE.out]; omega), if_neg (by omega), if_neg (by omega), if_neg (by omega), if_pos rfl, if_pos (by rw [HLE.out]; omega), if_pos (by rw [HLE.out]; omega), HNM.out, HF2.out]
        go_upto_region 24 with fail
        have hf7 := HF6.out.put 3 (.slice (some ⟨x.block, x.off + 3, none⟩) (n - 3) (c - 3)) (k' := 6) (nm' := nm1) (bA' := none) (bn' := 0) (bc' := 0) (nA' := some ⟨x.block, x.off + 3, none⟩) (nn' := n - 3) (nc' := c - 3) (m' := 0) (f' := f2) rfl
        generalize W6.setCell ⟨p, 3, none⟩ (.slice (some ⟨x.block, x.off + 3, none⟩) (n - 3) (c - 3)) = W7 at hf7 ⊢
        obtain ⟨ra, hra⟩ : ∃ ra, ra = rA s := ⟨_, rfl⟩
        rw [← hra] at HRD
        have HF : Hid (RA w W7 p (spl s) (some x) n ra.kind ra.name none 0 0 (some ⟨x.block, x.off + 3, none⟩) (n - 3) (c - 3) ra.mem ra.fuel) := Lib.hid (by rw [hra, hraE]; exact hf7)
        have HAT : Hid (ActAt W7 ra none 0 0 (some ⟨x.block, x.off + 3, none⟩) (n - 3) (c - 3)) := Lib.hid (by
          rw [hra, hraE]
          have hb := HBD.out
          exact ⟨HNL.out, ⟨rfl, fun h => absurd h (by omega)⟩, (fun y hy => by cases hy), Nat.zero_le _, Nat.le_refl _, (nm_drop hf7.hnm (by omega)).more (Nat.le_of_lt hf7.lt), by show n - 3 ≤ maxLen; unfold maxLen; omega, by show (-9223372036854775808 : Int) ≤ 0 ∧ (0 : Int) ≤ 9223372036854775807; omega, by show (-9223372036854775808 : Int) ≤ f2 ∧ f2 ≤ 9223372036854775807; omega⟩)
        have HLO : Hid (RLo (w.heap.size + 1) none 0 ∧ RLo (w.heap.size + 1) (some ⟨x.block, x.off + 3, none⟩) (n - 3)) := Lib.hid ⟨fun h => absurd h (by omega), fun _ => by
          obtain ⟨y, e, hy⟩ := HN2.out.2.2 (by omega)
          cases e
          exact ⟨_, rfl, hy⟩⟩
        have HRA := Lib.hid hra
        clear hraE hra k0 k1 k2 k3 k4 k5 hf7 f3 hsl
        have HMA := Lib.hid (rmayact_any W7 ra none 0 0 (some ⟨x.block, x.off + 3, none⟩) (n - 3) (c - 3) HAT.out)
        obtain ⟨k0, k1, k2, k3, k4, k5⟩ := HF.out.cells
        unfold actC at HMA
        cases hmay : ra.may with
        | false =>
          rw [hmay] at HMA
          have HRB : Hid (readB s = false) := Lib.hid (by rw [← HRD.out.1, hmay]; rfl)
          clear hmay
          go_wp2_with (go_at_call 33; (with_reducible refine HMA.out.mono ?_); rintro e w8 ⟨rfl, hb⟩; have HF8 := Lib.hid (HF.out.below hb); obtain ⟨⟨z0, z1, z2, z3, z4, z5⟩, y0, y1, y2, y3, y4, y5⟩ := HF8.out.zero; clear hb)
          refine ractof_fin (put6_block HF8.out.res (.int .i64 0) (.string ⟨#[]⟩) (.slice none 0 0) (.slice none 0 0) (.int .i64 0) (.int .i64 0)) _ rfl rfl rfl _ ?_
          rw [read_no HRB.out, HRB.out]
          exact ⟨none, 0, 0, none, 0, 0, rfl, none_at _ 0, (fun h => absurd h (by omega)), (fun h => absurd h (by omega)), put6_below HF8.out.hb _ (Nat.le_refl _) _ _ _ _ _ _⟩
        | true =>
          rw [hmay] at HMA
          have HTX := Lib.hid (fun V (hV : Below W7.heap.size W7 V) => ractText_any V ra none 0 0 (some ⟨x.block, x.off + 3, none⟩) (n - 3) (c - 3) (HAT.out.below hV) hmay (HT.out.below (HF.out.below hV).hb).t)
          unfold actC at HTX
          have HMY := Lib.hid hmay
          have hcmp := S_ne (l := ra.txt) (m := s)
          clear hmay
          by_cases hts : ra.txt = s
          · rw [decide_eq_true hts] at hcmp
            have HRB : Hid (readB s = true) := Lib.hid (by rw [← HRD.out.1, HMY.out, decide_eq_true hts]; rfl)
            clear hts
            generalize S ra.txt = ts at *
            go_wp2_with (first
              | (go_at_call 33; (with_reducible refine HMA.out.mono ?_); rintro e w8 ⟨rfl, hb⟩; have HB8 := Lib.hid hb; obtain ⟨k0, k1, k2, k3, k4, k5⟩ := (HF.out.below hb).cells; clear hb)
              | (go_at_call 34; (with_reducible refine (HTX.out _ HB8.out).mono ?_); rintro e w9 ⟨rfl, hb⟩; have HB9 := Lib.hid (HB8.out.trans (hb.mono HB8.out.size)); have HF9 := Lib.hid (HF.out.below (HB8.out.trans (hb.mono HB8.out.size))); obtain ⟨k0, k1, k2, k3, k4, k5⟩ := HF9.out.cells; obtain ⟨⟨z0, z1, z2, z3, z4, z5⟩, y0, y1, y2, y3, y4, y5⟩ := HF9.out.zero; clear hb))
            refine ractof_fin (put6_block HF9.out.res (.int .i64 ra.kind) (.string (S ra.name)) (.slice none 0 0) (.slice (some ⟨x.block, x.off + 3, none⟩) (n - 3) (c - 3)) (.int .i64 ra.mem) (.int .i64 ra.fuel)) _ rfl rfl rfl _ ?_
            rw [read_yes HRB.out, HRB.out, ← HRA.out]
            exact ⟨none, 0, 0, (some ⟨x.block, x.off + 3, none⟩), (n - 3), (c - 3), rfl, (HAT.out.below HB9.out).keep HLO.out.1 HLO.out.2 (Nat.le_of_eq (put6_size _ _ _ _ _ _ _ _).symm) (fun z hz _ => put6_other _ _ _ _ _ _ _ _ _ (by omega)), HLO.out.1.less (by omega), HLO.out.2.less (by omega), put6_below HF9.out.hb _ (Nat.le_refl _) _ _ _ _ _ _⟩
          · rw [decide_eq_false hts] at hcmp
            have HRB : Hid (readB s = false) := Lib.hid (by rw [← HRD.out.1, HMY.out, decide_eq_false hts]; rfl)
            clear hts
            generalize S ra.txt = ts at *
            go_wp2_with (first
              | (go_at_call 33; (with_reducible refine HMA.out.mono ?_); rintro e w8 ⟨rfl, hb⟩; have HB8 := Lib.hid hb; obtain ⟨k0, k1, k2, k3, k4, k5⟩ := (HF.out.below hb).cells; clear hb)
              | (go_at_call 34; (with_reducible refine (HTX.out _ HB8.out).mono ?_); rintro e w9 ⟨rfl, hb⟩; have HF8 := Lib.hid (HF.out.below (HB8.out.trans (hb.mono HB8.out.size))); obtain ⟨⟨z0, z1, z2, z3, z4, z5⟩, y0, y1, y2, y3, y4, y5⟩ := HF8.out.zero; clear hb))
            refine ractof_fin (put6_block HF8.out.res (.int .i64 0) (.string ⟨#[]⟩) (.slice none 0 0) (.slice none 0 0) (.int .i64 0) (.int .i64 0)) _ rfl rfl rfl _ ?_
            rw [read_no HRB.out, HRB.out]
            exact ⟨none, 0, 0, none, 0, 0, rfl, none_at _ 0, (fun h => absurd h (by omega)), (fun h => absurd h (by omega)), put6_below HF8.out.hb _ (Nat.le_refl _) _ _ _ _ _ _⟩

end Go.Proofs.YtlodoilihminaaaGreatDoor
