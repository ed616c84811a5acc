/-
  What May and its helpers tell of a tree in memory; of a tree that may be, all below it may be, each as what it is.
-/
import Derived.Test.YtkhbmamgfkpdbaaTreeNF
import Derived.Test.YtkhbmamgfkpdbaaTreeZ
namespace Go.Proofs.Ytkhbmamgfkpdbaa
open Go.ChangeShapes Go.WideShapes Go.ChangeAt Go.RowKit
set_option linter.unusedVariables false
def Tr.may : Tr → Bool
  | .mk k s v m ts => mayF k s v m ts.length (Tr.smL ts)
theorem sm_all {w0 : World} : ∀ (t : Tr) (k : Int) (s : ByteArray) (v : Int) (m : Bool) (a : Option Addr) (l c : Nat), Reads w0 t (nd k s v m a l c) → SmOK w0 k s v m a l c t.sm
  | .mk k0 s0 v0 m0 ts, k, s, v, m, a, l, c, h => by
    unfold Reads at h
    obtain ⟨a', len, cap, he, hs, _, _, ht, hl, hc, hk⟩ := h
    unfold nd at he
    injection he with he
    simp at he
    obtain ⟨rfl, rfl, rfl, rfl, rfl, rfl, rfl⟩ := he
    unfold Tr.sm
    rw [ht]
    refine sm_row hs hl hc fun h0 => ?_
    obtain ⟨⟨b, o, e⟩, hx, hb, hL⟩ := hk h0
    refine ⟨b, o, e, hx, hb, fun j hj => ?_⟩
    have hjt : j < ts.length := by omega
    obtain ⟨k', s', v', m', a', l', c', g1, g2⟩ := readsL_get ts 0 j ts[j] hL (List.getElem?_eq_getElem hjt)
    rw [Nat.zero_add] at g1
    have hd : SizeOf.sizeOf ts[j] < SizeOf.sizeOf ts := List.sizeOf_lt_of_mem (List.getElem_mem hjt)
    rw [smL_get ts j hjt]
    exact ⟨k', s', v', m', a', l', c', g1, sm_all ts[j] _ _ _ _ _ _ _ g2⟩
  termination_by t => SizeOf.sizeOf t
  decreasing_by
    simp
    omega
theorem may_all {w0 : World} : ∀ (t : Tr) (u : Value), Reads w0 t u → MayT w0 u t.may
  | .mk k0 s0 v0 m0 ts, u, h => by
    unfold Reads at h
    obtain ⟨a, len, cap, rfl, hs, _, _, ht, hl, hc, hk⟩ := h
    show MayT w0 _ (mayF k0 s0 v0 m0 ts.length (Tr.smL ts))
    rw [ht]
    refine may_row hs fun h0 => ?_
    obtain ⟨⟨b, o, e⟩, hx, hb, hL⟩ := hk h0
    refine ⟨b, o, e, hx, hb, fun j hj => ?_⟩
    have hjt : j < ts.length := by omega
    obtain ⟨k', s', v', m', a', l', c', g1, g2⟩ := readsL_get ts 0 j ts[j] hL (List.getElem?_eq_getElem hjt)
    rw [Nat.zero_add] at g1
    rw [smL_get ts j hjt]
    exact ⟨k', s', v', m', a', l', c', g1, sm_all ts[j] _ _ _ _ _ _ _ g2⟩
/-- may it stand anywhere? -/
def Sm.any (x : Sm) : Prop := x.idt = true ∨ x.non = true ∨ x.des = true ∨ x.exp = true ∨ x.qual = true ∨ x.opn = true ∨ x.typ = true ∨ x.fld = true ∨ x.prm = true ∨ x.prms = true ∨ x.stm = true ∨ x.stms = true ∨ x.imp = true ∨ (∃ i, x.df i = true) ∨ (∃ i, x.dc i = true) ∨ ∃ i, x.dcs i = true
theorem any_idt {x : Sm} (h : x.idt = true) : x.any := .inl h
theorem any_non {x : Sm} (h : x.non = true) : x.any := .inr (.inl h)
theorem any_des {x : Sm} (h : x.des = true) : x.any := .inr (.inr (.inl h))
theorem any_exp {x : Sm} (h : x.exp = true) : x.any := .inr (.inr (.inr (.inl h)))
theorem any_qual {x : Sm} (h : x.qual = true) : x.any := .inr (.inr (.inr (.inr (.inl h))))
theorem any_opn {x : Sm} (h : x.opn = true) : x.any := .inr (.inr (.inr (.inr (.inr (.inl h)))))
theorem any_typ {x : Sm} (h : x.typ = true) : x.any := .inr (.inr (.inr (.inr (.inr (.inr (.inl h))))))
theorem any_fld {x : Sm} (h : x.fld = true) : x.any := .inr (.inr (.inr (.inr (.inr (.inr (.inr (.inl h)))))))
theorem any_prm {x : Sm} (h : x.prm = true) : x.any := .inr (.inr (.inr (.inr (.inr (.inr (.inr (.inr (.inl h))))))))
theorem any_prms {x : Sm} (h : x.prms = true) : x.any := .inr (.inr (.inr (.inr (.inr (.inr (.inr (.inr (.inr (.inl h)))))))))
theorem any_stm {x : Sm} (h : x.stm = true) : x.any := .inr (.inr (.inr (.inr (.inr (.inr (.inr (.inr (.inr (.inr (.inl h))))))))))
theorem any_stms {x : Sm} (h : x.stms = true) : x.any := .inr (.inr (.inr (.inr (.inr (.inr (.inr (.inr (.inr (.inr (.inr (.inl h)))))))))))
theorem any_imp {x : Sm} (h : x.imp = true) : x.any := .inr (.inr (.inr (.inr (.inr (.inr (.inr (.inr (.inr (.inr (.inr (.inr (.inl h))))))))))))
theorem any_df {x : Sm} {i : Bool} (h : x.df i = true) : x.any := .inr (.inr (.inr (.inr (.inr (.inr (.inr (.inr (.inr (.inr (.inr (.inr (.inr (.inl ⟨i, h⟩)))))))))))))
theorem any_dc {x : Sm} {i : Bool} (h : x.dc i = true) : x.any := .inr (.inr (.inr (.inr (.inr (.inr (.inr (.inr (.inr (.inr (.inr (.inr (.inr (.inr (.inl ⟨i, h⟩))))))))))))))
theorem any_dcs {x : Sm} {i : Bool} (h : x.dcs i = true) : x.any := .inr (.inr (.inr (.inr (.inr (.inr (.inr (.inr (.inr (.inr (.inr (.inr (.inr (.inr (.inr ⟨i, h⟩))))))))))))))
theorem any_bel {x : Sm} {n : Int} (h : x.bel n = true) : x.any := any_exp (by unfold Sm.bel at h; unfold Sm.exp; simp at h; simp [h.1])
theorem any_lev {x : Sm} (h : x.lev ≠ -1) : x.any := any_exp (by unfold Sm.exp; simp [h])
theorem upto_at {n : Nat} {f : Nat → Bool} (h : upto n f = true) {j : Nat} (hj : j < n) : f j = true := by
  unfold upto at h
  rw [List.all_eq_true] at h
  exact h j (by simpa using hj)
section
variable {k : Int} {s : ByteArray} {v : Int} {m : Bool} {n : Nat} {K : Nat → Sm}
theorem sh_k {c d : Int} (h : shB k v n c d = true) : k = c := by unfold shB at h; simp at h; exact h.1.1
theorem sh_n {c d : Int} (h : shB k v n c d = true) (hd : 0 ≤ d) : (n : Int) = d := by unfold shB at h; simp at h; omega
theorem ba_sh {c d : Int} (h : baB k s v m n c d = true) : shB k v n c d = true := by unfold baB at h; simp at h; exact h.1
/-- all kids may stand somewhere -/
def kidsAny (n : Nat) (K : Nat → Sm) : Prop := ∀ j, j < n → (K j).any
theorem kids0 {c : Int} (h : shB k v n c 0 = true) : kidsAny n K := fun j hj => by have := sh_n h (by omega); omega
theorem kids1 {c : Int} (h : shB k v n c 1 = true) (h0 : (K 0).any) : kidsAny n K := fun j hj => by
  have := sh_n h (by omega)
  obtain rfl : j = 0 := by omega
  exact h0
theorem kids2 {c : Int} (h : shB k v n c 2 = true) (h0 : (K 0).any) (h1 : (K 1).any) : kidsAny n K := fun j hj => by
  have := sh_n h (by omega)
  obtain rfl | rfl : j = 0 ∨ j = 1 := by omega
  · exact h0
  · exact h1
theorem idt_kids (h : idB k s v m n = true) : kidsAny n K ∧ k = 11 := by
  unfold idB at h
  simp only [Bool.and_eq_true] at h
  exact ⟨kids0 h.1, sh_k h.1⟩
theorem des_kids (h : desF k s v m n K = true) : kidsAny n K ∧ (k = 11 ∨ k = 36 ∨ k = 37 ∨ k = 38) := by
  unfold desF at h
  repeat' split at h
  · exact ⟨(idt_kids (k := 11) h).1, by omega⟩
  · simp only [Bool.and_eq_true] at h
    exact ⟨kids1 h.1 (any_des h.2.2.2), by omega⟩
  · simp only [Bool.and_eq_true] at h
    exact ⟨kids2 (ba_sh h.1) (any_des h.2.1) (any_exp h.2.2), by omega⟩
  · simp only [Bool.and_eq_true] at h
    exact ⟨kids1 (ba_sh h.1) (any_des h.2), by omega⟩
  · cases h
theorem cal_kids (h : calF k s v m n K = true) : kidsAny n K ∧ k = 21 := by
  unfold calF at h
  simp only [Bool.and_eq_true, decide_eq_true_eq] at h
  refine ⟨fun j hj => ?_, sh_k (ba_sh h.1)⟩
  cases j with
  | zero => exact any_des h.2.2.1
  | succ j => exact any_exp (upto_at h.2.2.2 (by omega))
theorem fac_kids (h : facF k s v m n K = true) : kidsAny n K ∧ (k = 11 ∨ k = 21 ∨ 25 ≤ k ∧ k ≤ 33 ∨ 36 ≤ k ∧ k ≤ 38) := by
  unfold facF at h
  repeat' split at h
  · exact ⟨(des_kids h).1, by omega⟩
  · exact ⟨(cal_kids (k := 21) h).1, by omega⟩
  · exact ⟨kids0 (ba_sh h), by omega⟩
  · simp only [Bool.and_eq_true] at h; exact ⟨kids0 (ba_sh h.2), by omega⟩
  · simp only [Bool.and_eq_true] at h; exact ⟨kids0 h.1, by omega⟩
  · exact ⟨kids0 (ba_sh h), by omega⟩
  · exact ⟨kids0 (ba_sh h), by omega⟩
  · exact ⟨kids0 (ba_sh h), by omega⟩
  · simp only [Bool.and_eq_true] at h; exact ⟨fun j hj => any_exp (upto_at h.2 hj), by omega⟩
  · simp only [Bool.and_eq_true] at h; exact ⟨kids1 (ba_sh h.1) (any_exp h.2), by omega⟩
  · simp only [Bool.and_eq_true] at h; exact ⟨kids1 (ba_sh h.1) (any_bel h.2), by omega⟩
  · cases h
theorem op_kids {l0 l1 : Int} (h : opF s l0 l1 ≠ -1) : l0 ≠ -1 ∧ l1 ≠ -1 := by
  unfold opF at h
  split at h
  · exact absurd rfl h
  · split at h
    · rename_i g
      simp at g
      exact ⟨g.1.1, g.2.1⟩
    · exact absurd rfl h
theorem lev_kids (h : levI k s v m n K ≠ -1) : kidsAny n K ∧ (k = 11 ∨ k = 21 ∨ 25 ≤ k ∧ k ≤ 38) := by
  unfold levI at h
  repeat' split at h
  · rename_i h1 h2
    simp only [Bool.and_eq_true] at h2
    obtain ⟨g0, g1⟩ := op_kids h
    exact ⟨kids2 h2.1 (any_lev g0) (any_lev g1), by omega⟩
  · exact absurd rfl h
  · rename_i h0 h1 h2
    simp only [Bool.and_eq_true] at h2
    exact ⟨kids1 h2.1 (any_bel h2.2.2), by omega⟩
  · exact absurd rfl h
  · rename_i h0 h1 h2
    have := fac_kids h2
    exact ⟨this.1, by omega⟩
  · exact absurd rfl h
theorem lev_of_fac (h : facF k s v m n K = true) : levI k s v m n K ≠ -1 := by
  have := (fac_kids h).2
  unfold levI
  rw [if_neg (by omega), if_neg (by omega), if_pos h]
  decide
theorem qua_kids (h : quaF k s v m n K = true) : kidsAny n K ∧ (k = 11 ∨ k = 12) := by
  unfold quaF at h
  simp only [Bool.or_eq_true, Bool.and_eq_true] at h
  rcases h with h | h
  · exact ⟨(idt_kids h).1, .inl (idt_kids (K := K) h).2⟩
  · exact ⟨kids1 h.1 (any_idt h.2.2.2), .inr (sh_k h.1)⟩
theorem typ_kids (h : typF k s v m n K = true) : kidsAny n K ∧ (k = 11 ∨ k = 12 ∨ k = 14 ∨ k = 15 ∨ k = 17) := by
  unfold typF at h
  repeat' split at h
  · exact ⟨(qua_kids h).1, by omega⟩
  · simp only [Bool.and_eq_true] at h; exact ⟨kids2 (ba_sh h.1) (any_exp h.2.1) (any_typ h.2.2), by omega⟩
  · simp only [Bool.and_eq_true] at h; exact ⟨fun j hj => any_fld (upto_at h.2 hj), by omega⟩
  · simp only [Bool.and_eq_true] at h; exact ⟨kids1 (ba_sh h.1) (any_typ h.2), by omega⟩
  · cases h
theorem kidsLast {q : Nat → Sm → Bool} (h1 : 1 < n) (ha : ∀ j, j < n - 1 → (K j).any) (hl : (K (n - 1)).any) : kidsAny n K := fun j hj => by
  by_cases h : j < n - 1
  · exact ha j h
  · obtain rfl : j = n - 1 := by omega
    exact hl
theorem fld_kids (h : fldF k s v m n K = true) : kidsAny n K ∧ k = 16 := by
  unfold fldF at h
  simp only [Bool.and_eq_true, decide_eq_true_eq] at h
  exact ⟨kidsLast (q := fun _ _ => true) h.2.1 (fun j hj => any_idt (upto_at h.2.2.1 hj)) (any_typ h.2.2.2), sh_k (ba_sh h.1)⟩
theorem prm_kids (h : prmF k s v n K = true) : kidsAny n K ∧ k = 9 := by
  unfold prmF at h
  simp only [Bool.and_eq_true, decide_eq_true_eq, Bool.or_eq_true] at h
  refine ⟨kidsLast (q := fun _ _ => true) h.2.2.1 (fun j hj => any_idt (upto_at h.2.2.2.1 hj)) ?_, sh_k h.1⟩
  rcases h.2.2.2.2 with g | g
  · exact any_qual g
  · exact any_opn g
theorem stm_kids (h : stmF k s v m n K = true) : kidsAny n K ∧ 20 ≤ k ∧ k ≤ 24 ∧ (k = 21 → calF 21 s v m n K = true) := by
  unfold stmF at h
  repeat' split at h
  · simp only [Bool.and_eq_true] at h; exact ⟨kids2 (ba_sh h.1) (any_des h.2.1) (any_exp h.2.2), by omega, by omega, by omega⟩
  · exact ⟨(cal_kids (k := 21) h).1, by omega, by omega, fun _ => h⟩
  · simp only [Bool.and_eq_true] at h; exact ⟨kids2 (ba_sh h.1) (any_exp h.2.1) (any_stms h.2.2), by omega, by omega, by omega⟩
  · simp only [Bool.and_eq_true] at h; exact ⟨kids2 (ba_sh h.1) (any_stms h.2.1) (any_exp h.2.2), by omega, by omega, by omega⟩
  · unfold ifF at h
    simp only [Bool.and_eq_true] at h
    refine ⟨fun j hj => ?_, by omega, by omega, by omega⟩
    have := upto_at h.2.2 hj
    split at this
    · exact any_stms this
    · exact any_exp this
  · cases h
theorem dcl_kids {i : Bool} (h : dclF k s v m n K i = true) : kidsAny n K ∧ 4 ≤ k ∧ k ≤ 7 := by
  unfold dclF at h
  repeat' split at h
  · simp only [Bool.and_eq_true] at h; unfold naB at h; simp only [Bool.and_eq_true] at h; exact ⟨kids1 h.1.1 (any_exp h.2), by omega, by omega⟩
  · simp only [Bool.and_eq_true] at h; unfold naB at h; simp only [Bool.and_eq_true] at h; exact ⟨kids1 h.1.1 (any_typ h.2), by omega, by omega⟩
  · simp only [Bool.and_eq_true, decide_eq_true_eq] at h
    exact ⟨kidsLast (q := fun _ _ => true) h.2.1 (fun j hj => any_df (upto_at h.2.2.2 hj)) (any_typ h.2.2.1), by omega, by omega⟩
  · unfold naB proF at h
    simp only [Bool.and_eq_true, Bool.or_eq_true] at h
    refine ⟨fun j hj => ?_, by omega, by omega⟩
    have hn := sh_n h.1.1 (by omega)
    obtain rfl | rfl | rfl | rfl | rfl : j = 0 ∨ j = 1 ∨ j = 2 ∨ j = 3 ∨ j = 4 := by omega
    · exact any_prms h.2.1
    · rcases h.2.2.1 with g | g
      · exact any_non g
      · exact any_qual g
    · exact any_dcs h.2.2.2.1
    · exact any_stms h.2.2.2.2.1
    · rcases h.2.2.2.2.2 with g | g
      · exact any_non g
      · exact any_exp g
  · cases h
/-- what a node must be, by its kind -/
def Sm.fine (x : Sm) : Prop := ((25 ≤ x.kind ∧ x.kind ≤ 38 ∨ x.kind = 21) → x.exp = true) ∧ (x.kind = 19 → x.stms = true) ∧ ((x.kind = 14 ∨ x.kind = 15 ∨ x.kind = 17) → x.typ = true)
theorem fine_of {x : Sm} (h : ¬ (25 ≤ x.kind ∧ x.kind ≤ 38 ∨ x.kind = 21) ∧ x.kind ≠ 19 ∧ ¬ (x.kind = 14 ∨ x.kind = 15 ∨ x.kind = 17)) : x.fine := ⟨fun g => absurd g h.1, fun g => absurd g h.2.1, fun g => absurd g h.2.2⟩
theorem exp_of_lev {x : Sm} (h : x.lev ≠ -1) : x.exp = true := by unfold Sm.exp; simp [h]
theorem step_any (h : (step k s v m n K).any) : kidsAny n K ∧ (step k s v m n K).fine ∧ k ≠ 99 := by
  rcases h with h | h | h | h | h | h | h | h | h | h | h | h | h | ⟨i, h⟩ | ⟨i, h⟩ | ⟨i, h⟩
  · obtain ⟨h1, rfl⟩ := idt_kids (K := K) h
    exact ⟨h1, fine_of (by simp [step]), by omega⟩
  · have h : baB k s v m n 18 0 = true := h
    obtain rfl := sh_k (ba_sh h)
    exact ⟨kids0 (ba_sh h), fine_of (by simp [step]), by omega⟩
  · have h : desF k s v m n K = true := h
    obtain ⟨h1, h2⟩ := des_kids h
    refine ⟨h1, ⟨fun _ => exp_of_lev (lev_of_fac (k := k) ?_), fun (g : k = 19) => by omega, fun (g : k = 14 ∨ k = 15 ∨ k = 17) => by omega⟩, by omega⟩
    unfold facF
    rw [if_pos h2]
    exact h
  · have h3 : levI k s v m n K ≠ -1 := by
      intro e
      have h' : (!(levI k s v m n K == -1)) = true := h
      rw [e] at h'
      cases h'
    obtain ⟨h1, h2⟩ := lev_kids h3
    exact ⟨h1, ⟨fun _ => h, fun (g : k = 19) => by omega, fun (g : k = 14 ∨ k = 15 ∨ k = 17) => by omega⟩, by omega⟩
  · obtain ⟨h1, h2⟩ := qua_kids (K := K) h
    refine ⟨h1, fine_of ⟨fun (g : 25 ≤ k ∧ k ≤ 38 ∨ k = 21) => by omega, fun (g : k = 19) => by omega, fun (g : k = 14 ∨ k = 15 ∨ k = 17) => by omega⟩, by omega⟩
  · have h : (baB k s v m n 13 1 && (K 0).qual) = true := h
    simp only [Bool.and_eq_true] at h
    obtain rfl := sh_k (ba_sh h.1)
    exact ⟨kids1 (ba_sh h.1) (any_qual h.2), fine_of (by simp [step]), by omega⟩
  · have h' : typF k s v m n K = true := h
    obtain ⟨h1, h2⟩ := typ_kids h'
    exact ⟨h1, ⟨fun (g : 25 ≤ k ∧ k ≤ 38 ∨ k = 21) => by omega, fun (g : k = 19) => by omega, fun _ => h⟩, by omega⟩
  · obtain ⟨h1, rfl⟩ := fld_kids (K := K) h
    exact ⟨h1, fine_of (by simp [step]), by omega⟩
  · obtain ⟨h1, rfl⟩ := prm_kids (K := K) h
    exact ⟨h1, fine_of (by simp [step]), by omega⟩
  · have h : (baB k s v m n 8 (-1) && upto n fun j => (K j).prm) = true := h
    simp only [Bool.and_eq_true] at h
    obtain rfl := sh_k (ba_sh h.1)
    exact ⟨fun j hj => any_prm (upto_at h.2 hj), fine_of (by simp [step]), by omega⟩
  · have h : stmF k s v m n K = true := h
    obtain ⟨h1, h2, h3, h4⟩ := stm_kids h
    refine ⟨h1, ⟨fun (g : 25 ≤ k ∧ k ≤ 38 ∨ k = 21) => exp_of_lev (lev_of_fac (k := k) ?_), fun (g : k = 19) => by omega, fun (g : k = 14 ∨ k = 15 ∨ k = 17) => by omega⟩, by omega⟩
    obtain rfl : k = 21 := by omega
    unfold facF
    rw [if_neg (by omega), if_pos rfl]
    exact h4 rfl
  · have h' : smsF k s v m n K = true := h
    unfold smsF at h'
    simp only [Bool.and_eq_true] at h'
    obtain rfl := sh_k (ba_sh h'.1)
    exact ⟨fun j hj => any_stm (upto_at h'.2 hj), ⟨fun (g : 25 ≤ (19 : Int) ∧ (19 : Int) ≤ 38 ∨ (19 : Int) = 21) => by omega, fun _ => h, fun (g : (19 : Int) = 14 ∨ (19 : Int) = 15 ∨ (19 : Int) = 17) => by omega⟩, by omega⟩
  · have h' : impF k s v m n K = true := h
    unfold impF at h'
    simp only [Bool.and_eq_true] at h'
    obtain rfl := sh_k (ba_sh h'.1)
    exact ⟨fun j hj => any_idt (upto_at h'.2 hj), fine_of (by simp [step]), by omega⟩
  · have h : ((k == 10) && naB k s v m n 0 i) = true := h
    unfold naB at h
    simp only [Bool.and_eq_true, beq_iff_eq] at h
    obtain ⟨rfl, h1, -⟩ := h
    exact ⟨kids0 h1, fine_of (by simp [step]), by omega⟩
  · have h : dclF k s v m n K i = true := h
    obtain ⟨h1, h2, h3⟩ := dcl_kids h
    exact ⟨h1, fine_of ⟨fun (g : 25 ≤ k ∧ k ≤ 38 ∨ k = 21) => by omega, fun (g : k = 19) => by omega, fun (g : k = 14 ∨ k = 15 ∨ k = 17) => by omega⟩, by omega⟩
  · have h' : dcsF k s v m n K i = true := h
    unfold dcsF at h'
    simp only [Bool.and_eq_true] at h'
    obtain rfl := sh_k (ba_sh h'.1)
    exact ⟨fun j hj => any_dc (i := i) (by have := upto_at h'.2 hj; simp only [Bool.and_eq_true] at this; exact this.2), fine_of (by simp [step]), by omega⟩
theorem may_kids (h : mayF k s v m n K = true) : kidsAny n K ∧ k = 1 := by
  unfold mayF at h
  simp only [Bool.and_eq_true] at h
  refine ⟨fun j hj => ?_, sh_k h.1⟩
  have hn := sh_n h.1 (by omega)
  obtain rfl | rfl | rfl : j = 0 ∨ j = 1 ∨ j = 2 := by omega
  · exact any_imp h.2.2.2.1
  · exact any_dcs h.2.2.2.2.1
  · exact any_stms h.2.2.2.2.2
end
end Go.Proofs.Ytkhbmamgfkpdbaa
