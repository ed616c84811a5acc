/-
  What tree.May and its helpers tell of a tree: explicit functions, node by node; a row of known nodes in memory.
-/
import Derived.Test.YtkhbmamgfkpdbaaTreeH
import Derived.Test.YtkhbmamgfkpdbaaTreeT
namespace Go.Proofs.Ytkhbmamgfkpdbaa
open Go.ChangeShapes Go.WideShapes Go.ChangeAt Go.RowKit
set_option linter.unusedVariables false
/-- what is told of a node with all below it -/
structure Sm where
  kind : Int
  idt : Bool
  non : Bool
  des : Bool
  lev : Int
  qual : Bool
  opn : Bool
  typ : Bool
  fld : Bool
  prm : Bool
  prms : Bool
  stm : Bool
  stms : Bool
  imp : Bool
  df : Bool → Bool
  dc : Bool → Bool
  dcs : Bool → Bool
def Sm.exp (x : Sm) : Bool := !(x.lev == -1)
def Sm.bel (x : Sm) (n : Int) : Bool := !(x.lev == -1) && decide (x.lev ≤ n)
def bad : Sm := ⟨0, false, false, false, -1, false, false, false, false, false, false, false, false, false, fun _ => false, fun _ => false, fun _ => false⟩
def upto (n : Nat) (f : Nat → Bool) : Bool := (List.range n).all f
section
variable (k : Int) (s : ByteArray) (v : Int) (m : Bool) (n : Nat) (K : Nat → Sm)
def desF : Bool := if k = 11 then idB 11 s v m n else if k = 36 then shB 36 v n 36 1 && ((nameB s && !kw s) && (!m && (K 0).des)) else if k = 37 then baB 37 s v m n 37 2 && ((K 0).des && (K 1).exp) else if k = 38 then baB 38 s v m n 38 1 && (K 0).des else false
def calF : Bool := baB k s v m n 21 (-1) && (decide (0 < n) && ((K 0).des && upto (n - 1) fun j => (K (j + 1)).exp))
def facF : Bool := if k = 11 ∨ k = 36 ∨ k = 37 ∨ k = 38 then desF k s v m n K else if k = 21 then calF 21 s v m n K else if k = 25 then baB 25 s 0 m n 25 0 else if k = 26 then decide (v ≤ 255) && baB 26 s 0 m n 26 0 else if k = 27 then shB 27 v n 27 0 && (!m && strB s) else if k = 28 then baB 28 s v m n 28 0 else if k = 29 then baB 29 s v m n 29 0 else if k = 30 then baB 30 s v m n 30 0 else if k = 31 then baB 31 s v m n 31 (-1) && upto n fun j => (K j).exp else if k = 32 then baB 32 s v m n 32 1 && (K 0).exp else if k = 33 then baB 33 s v m n 33 1 && (K 0).bel 0 else false
def levI : Int := if k = 35 then (if shB 35 v n 35 2 && !m then opF s (K 0).lev (K 1).lev else -1) else if k = 34 then (if shB 34 v n 34 1 && ((!m && (decide (s.toList = [43]) || decide (s.toList = [45]))) && (K 0).bel 1) then 2 else -1) else if facF k s v m n K then 0 else -1
def quaF : Bool := idB k s v m n || (shB k v n 12 1 && ((nameB s && !kw s) && (!m && (K 0).idt)))
def typF : Bool := if k = 11 ∨ k = 12 then quaF k s v m n K else if k = 14 then baB 14 s v m n 14 2 && ((K 0).exp && (K 1).typ) else if k = 15 then baB 15 s v m n 15 (-1) && upto n fun j => (K j).fld else if k = 17 then baB 17 s v m n 17 1 && (K 0).typ else false
def fldF : Bool := baB k s v m n 16 (-1) && (decide (1 < n) && ((upto (n - 1) fun j => (K j).idt) && (K (n - 1)).typ))
def prmF : Bool := shB k v n 9 (-1) && (emB s && (decide (1 < n) && ((upto (n - 1) fun j => (K j).idt) && ((K (n - 1)).qual || (K (n - 1)).opn))))
def ifF : Bool := decide (2 ≤ n) && upto n fun j => if (j + 1) % 2 = 0 ∨ j + 1 = n then (K j).stms else (K j).exp
def stmF : Bool := if k = 20 then baB 20 s v m n 20 2 && ((K 0).des && (K 1).exp) else if k = 21 then calF 21 s v m n K else if k = 23 then baB 23 s v m n 23 2 && ((K 0).exp && (K 1).stms) else if k = 24 then baB 24 s v m n 24 2 && ((K 0).stms && (K 1).exp) else if k = 22 then baB 22 s v m n 22 (-1) && ifF n K else false
def smsF : Bool := baB k s v m n 19 (-1) && upto n fun j => (K j).stm
def naB (c : Int) (i : Bool) : Bool := shB k v n k c && ((nameB s && !kw s) && !(m && i))
def proF : Bool := (K 0).prms && (((K 1).non || (K 1).qual) && ((K 2).dcs true && ((K 3).stms && ((K 4).non || (K 4).exp))))
def dclF (i : Bool) : Bool := if k = 4 then naB 4 s v m n 1 i && (K 0).exp else if k = 5 then naB 5 s v m n 1 i && (K 0).typ else if k = 6 then baB 6 s v m n 6 (-1) && (decide (1 < n) && ((K (n - 1)).typ && upto (n - 1) fun j => (K j).df i)) else if k = 7 then naB 7 s v m n 5 i && proF K else false
/-- the kind of the declaration ahead of a number's -/
def kdA (j : Nat) : Int := if j = 0 then 4 else (K (j - 1)).kind
def dcsF (i : Bool) : Bool := baB k s v m n 3 (-1) && upto n fun j => decide (kdA K j ≤ (K j).kind) && (K j).dc i
def impF : Bool := baB k s v m n 2 (-1) && upto n fun j => (K j).idt
def mayF : Bool := shB k v n 1 3 && ((nameB s && !kw s) && (!m && ((K 0).imp && ((K 1).dcs false && (K 2).stms))))
/-- a node, by what is told of its kids -/
def step : Sm where
  kind := k
  idt := idB k s v m n
  non := baB k s v m n 18 0
  des := desF k s v m n K
  lev := levI k s v m n K
  qual := quaF k s v m n K
  opn := baB k s v m n 13 1 && (K 0).qual
  typ := typF k s v m n K
  fld := fldF k s v m n K
  prm := prmF k s v n K
  prms := baB k s v m n 8 (-1) && upto n fun j => (K j).prm
  stm := stmF k s v m n K
  stms := smsF k s v m n K
  imp := impF k s v m n K
  df := fun i => (k == 10) && naB k s v m n 0 i
  dc := dclF k s v m n K
  dcs := dcsF k s v m n K
end
mutual
def Tr.sm : Tr → Sm
  | .mk k s v m ts => step k s v m ts.length (Tr.smL ts)
def Tr.smL : List Tr → Nat → Sm
  | [] => fun _ => bad
  | t :: ts => fun j => match j with
    | 0 => t.sm
    | j + 1 => Tr.smL ts j
end
theorem smL_get : ∀ (ts : List Tr) (j : Nat) (h : j < ts.length), Tr.smL ts j = ts[j].sm
  | [], j, h => by simp at h
  | t :: ts, 0, h => by simp [Tr.smL]
  | t :: ts, j + 1, h => by
    simp only [Tr.smL, List.getElem_cons_succ]
    exact smL_get ts j (by simpa using h)
def Qua (w : World) (u : Value) (r : Bool) : Prop := ∀ W, Below w.heap.size w W → Calls Try.prog 40 #[u] W fun e W' => e = .returned (.bool r) ∧ Below W.heap.size W W'
def Idt (w : World) (u : Value) (r : Bool) : Prop := ∀ W, Below w.heap.size w W → Calls Try.prog 48 #[u] W fun e W' => e = .returned (.bool r) ∧ Below W.heap.size W W'
def Typ (w : World) (u : Value) (r : Bool) : Prop := ∀ W, Below w.heap.size w W → Calls Try.prog 23 #[u] W fun e W' => e = .returned (.bool r) ∧ Below W.heap.size W W'
def Fld (w : World) (u : Value) (r : Bool) : Prop := ∀ W, Below w.heap.size w W → Calls Try.prog 41 #[u] W fun e W' => e = .returned (.bool r) ∧ Below W.heap.size W W'
def Prm (w : World) (u : Value) (r : Bool) : Prop := ∀ W, Below w.heap.size w W → Calls Try.prog 60 #[u] W fun e W' => e = .returned (.bool r) ∧ Below W.heap.size W W'
def Stm (w : World) (u : Value) (r : Bool) : Prop := ∀ W, Below w.heap.size w W → Calls Try.prog 39 #[u] W fun e W' => e = .returned (.bool r) ∧ Below W.heap.size W W'
def Sms (w : World) (u : Value) (r : Bool) : Prop := ∀ W, Below w.heap.size w W → Calls Try.prog 22 #[u] W fun e W' => e = .returned (.bool r) ∧ Below W.heap.size W W'
def Imp (w : World) (u : Value) (r : Bool) : Prop := ∀ W, Below w.heap.size w W → Calls Try.prog 33 #[u] W fun e W' => e = .returned (.bool r) ∧ Below W.heap.size W W'
def Dcl (w : World) (u : Value) (i : Bool) (r : Bool) : Prop := ∀ W, Below w.heap.size w W → Calls Try.prog 50 #[u, .bool i] W fun e W' => e = .returned (.bool r) ∧ Below W.heap.size W W'
def Dcs (w : World) (u : Value) (i : Bool) (r : Bool) : Prop := ∀ W, Below w.heap.size w W → Calls Try.prog 34 #[u, .bool i] W fun e W' => e = .returned (.bool r) ∧ Below W.heap.size W W'
def AllPrm (w : World) (v : Value) (r : Bool) : Prop := ∀ W, Below w.heap.size w W → Calls Try.prog 38 #[v, .func (.func 60) #[] #[]] W fun e W' => e = .returned (.bool r) ∧ Below W.heap.size W W'
/-- what is known of a node, there and later -/
structure SmOK (w : World) (k : Int) (s : ByteArray) (v : Int) (m : Bool) (a : Option Addr) (l c : Nat) (x : Sm) : Prop where
  kind : x.kind = k
  hs : s.size ≤ maxLen
  idt : x.idt = idB k s v m l
  non : x.non = baB k s v m l 18 0
  df : ∀ i, x.df i = ((k == 10) && naB k s v m l 0 i)
  des : Desig w (nd k s v m a l c) x.des
  lev : Lev w (nd k s v m a l c) x.lev
  qual : Qua w (nd k s v m a l c) x.qual
  typ : Typ w (nd k s v m a l c) x.typ
  fld : Fld w (nd k s v m a l c) x.fld
  prm : Prm w (nd k s v m a l c) x.prm
  stm : Stm w (nd k s v m a l c) x.stm
  stms : Sms w (nd k s v m a l c) x.stms
  imp : Imp w (nd k s v m a l c) x.imp
  dc : ∀ i, Dcl w (nd k s v m a l c) i (x.dc i)
  dcs : ∀ i, Dcs w (nd k s v m a l c) i (x.dcs i)
  prms : ∃ r, AllPrm w (.slice a l c) r ∧ x.prms = (baB k s v m l 8 (-1) && r)
  opn0 : baB k s v m l 13 1 = false → x.opn = false
  opn1 : baB k s v m l 13 1 = true → ∃ b o e k' s' v' m' a' l' c', a = some ⟨b, o, e⟩ ∧ l = 1 ∧ b < w.heap.size ∧ Kid w b o e k' s' v' m' a' l' c' ∧ Qua w (nd k' s' v' m' a' l' c') x.opn
theorem SmOK.exp {w : World} {k : Int} {s : ByteArray} {v : Int} {m : Bool} {a : Option Addr} {l c : Nat} {x : Sm} (h : SmOK w k s v m a l c x) : Ex w (nd k s v m a l c) x.exp := ex_of h.lev
theorem SmOK.id {w : World} {k : Int} {s : ByteArray} {v : Int} {m : Bool} {a : Option Addr} {l c : Nat} {x : Sm} (h : SmOK w k s v m a l c x) : Idt w (nd k s v m a l c) x.idt := fun W _ => by rw [h.idt]; exact ident_any k s v m a l c h.hs W
/-- a row of them -/
def RowK (w : World) (a : Option Addr) (len : Nat) (K : Nat → Sm) : Prop := 0 < len → ∃ b o e, a = some ⟨b, o, e⟩ ∧ b < w.heap.size ∧ ∀ j, j < len → ∃ k s v m a l c, Kid w b (o + j * 5) (if j = 0 then e else none) k s v m a l c ∧ SmOK w k s v m a l c (K j)
theorem RowK.less {w : World} {a : Option Addr} {len n : Nat} {K : Nat → Sm} (h : RowK w a len K) (hn : n ≤ len) : RowK w a n K := fun h0 => by
  obtain ⟨b, o, e, h1, h2, h3⟩ := h (by omega)
  exact ⟨b, o, e, h1, h2, fun j hj => h3 j (by omega)⟩
theorem RowK.from1 {w : World} {b o : Nat} {e : Option Nat} {len : Nat} {K : Nat → Sm} (h : RowK w (some ⟨b, o, e⟩) (len + 1) K) : RowK w (some ⟨b, o + 5, none⟩) len fun j => K (j + 1) := fun h0 => by
  obtain ⟨b, o, e, h1, h2, h3⟩ := h (by omega)
  cases h1
  refine ⟨_, _, _, rfl, h2, fun j hj => ?_⟩
  obtain ⟨k, s, v, m, a, l, c, h4, h5⟩ := h3 (j + 1) (by omega)
  refine ⟨k, s, v, m, a, l, c, ?_, h5⟩
  rw [show o + 5 + j * 5 = o + (j + 1) * 5 by omega]
  simpa using h4
theorem RowK.k0 {w : World} {b o : Nat} {e : Option Nat} {len : Nat} {K : Nat → Sm} (h : RowK w (some ⟨b, o, e⟩) len K) (hl : 0 < len) : b < w.heap.size ∧ ∃ k s v m a l c, Kid w b o e k s v m a l c ∧ SmOK w k s v m a l c (K 0) := by
  obtain ⟨b, o, e, h1, h2, h3⟩ := h (by omega)
  cases h1
  exact ⟨h2, by simpa using h3 0 hl⟩
theorem RowK.kj {w : World} {b o : Nat} {e : Option Nat} {len : Nat} {K : Nat → Sm} (h : RowK w (some ⟨b, o, e⟩) len K) (j : Nat) (hl : j + 1 < len) : ∃ k s v m a l c, Kid w b (o + (j + 1) * 5) none k s v m a l c ∧ SmOK w k s v m a l c (K (j + 1)) := by
  obtain ⟨b, o, e, h1, h2, h3⟩ := h (by omega)
  cases h1
  simpa using h3 (j + 1) hl
section
variable {w0 : World} {k : Int} {s : ByteArray} {v : Int} {m : Bool} {a : Option Addr} {len cap : Nat} {K : Nat → Sm}
theorem des_row (hs : s.size ≤ maxLen) (hk : RowK w0 a len K) : Desig w0 (nd k s v m a len cap) (desF k s v m len K) := by
  unfold desF
  by_cases h1 : k = 11
  · subst h1; rw [if_pos rfl]; exact des11 hs
  rw [if_neg h1]
  by_cases h2 : k = 36
  · subst h2
    rw [if_pos rfl]
    cases hp : shB 36 v len 36 1 with
    | false => exact des36_no hp
    | true =>
      have hl : len = 1 := by unfold shB at hp; simp at hp; omega
      subst hl
      obtain ⟨b, o, e, rfl, -⟩ := hk (by omega)
      obtain ⟨hb, k', s', v', m', a', l', c', hkid, h⟩ := hk.k0 (by omega)
      rw [Bool.true_and]
      exact des36_yes hb hkid hs h.des hp
  rw [if_neg h2]
  by_cases h3 : k = 37
  · subst h3
    rw [if_pos rfl]
    cases hp : baB 37 s v m len 37 2 with
    | false => exact des37_no hp
    | true =>
      have hl : len = 2 := by unfold baB shB at hp; simp at hp; omega
      subst hl
      obtain ⟨b, o, e, rfl, -⟩ := hk (by omega)
      obtain ⟨hb, k', s', v', m', a', l', c', hkid, h⟩ := hk.k0 (by omega)
      obtain ⟨k2, s2, v2, m2, a2, l2, c2, hkid2, h2⟩ := hk.kj 0 (by omega)
      rw [Bool.true_and]
      exact des37_yes hb hkid (by simpa using hkid2) h.des h2.exp hp
  rw [if_neg h3]
  by_cases h4 : k = 38
  · subst h4
    rw [if_pos rfl]
    cases hp : baB 38 s v m len 38 1 with
    | false => exact des38_no hp
    | true =>
      have hl : len = 1 := by unfold baB shB at hp; simp at hp; omega
      subst hl
      obtain ⟨b, o, e, rfl, -⟩ := hk (by omega)
      obtain ⟨hb, k', s', v', m', a', l', c', hkid, h⟩ := hk.k0 (by omega)
      rw [Bool.true_and]
      exact des38_yes hb hkid h.des hp
  rw [if_neg h4]
  exact desN h1 h2 h3 h4
theorem allE_row (hl : len ≤ maxLen) (hk : RowK w0 a len K) : AllG w0 (.slice a len cap) (upto len fun j => (K j).exp) := by
  by_cases h0 : len = 0
  · subst h0; exact all_zero _ _
  obtain ⟨b, o, e, rfl, hb, hK⟩ := hk (by omega)
  refine all_any w0 b o e len cap hb hl _ fun j hj => ?_
  obtain ⟨k, s, v, m, a, l, c, h1, h2⟩ := hK j hj
  exact ⟨k, s, v, m, a, l, c, h1, h2.exp⟩
theorem cal_row (hl : len ≤ cap) (hc : cap ≤ maxLen) (hk : RowK w0 a len K) : CallR w0 (nd k s v m a len cap) (calF k s v m len K) := by
  unfold calF
  cases hp : baB k s v m len 21 (-1) with
  | false => exact call_no hp
  | true =>
    cases len with
    | zero => exact call_zero hp
    | succ n =>
      obtain ⟨b, o, e, rfl, -⟩ := hk (by omega)
      obtain ⟨hb, k', s', v', m', a', l', c', hkid, h⟩ := hk.k0 (by omega)
      rw [decide_eq_true (show 0 < n + 1 by omega)]
      simp only [Bool.true_and, Nat.add_sub_cancel]
      by_cases h1 : cap = 1
      · subst h1
        obtain rfl : n = 0 := by omega
        rw [show upto 0 (fun j => (K (j + 1)).exp) = true from rfl, Bool.and_true]
        exact call_one hb hkid h.des hp
      · exact call_yes hb hkid hl (by omega) hc h.des (allE_row (by omega) hk.from1) hp
theorem fac_row (hs : s.size ≤ maxLen) (hl : len ≤ cap) (hc : cap ≤ maxLen) (hk : RowK w0 a len K) : Fac w0 (nd k s v m a len cap) (facF k s v m len K) := by
  have hd := des_row (k := k) (v := v) (m := m) (cap := cap) hs hk
  have hcall := cal_row (k := k) (s := s) (v := v) (m := m) hl hc hk
  have hall := allE_row (cap := cap) (by omega) hk
  unfold facF
  by_cases h0 : k = 11
  · subst h0
    rw [if_pos (by decide)]
    exact fac11 hd
  by_cases h1 : k = 36
  · subst h1
    rw [if_pos (by decide)]
    exact fac36 hd
  by_cases h2 : k = 37
  · subst h2
    rw [if_pos (by decide)]
    exact fac37 hd
  by_cases h3 : k = 38
  · subst h3
    rw [if_pos (by decide)]
    exact fac38 hd
  rw [if_neg (by omega)]
  by_cases h4 : k = 21
  · subst h4
    rw [if_pos rfl]
    exact fac21 hcall
  rw [if_neg h4]
  by_cases h5 : k = 25
  · subst h5
    rw [if_pos rfl]
    exact fac25
  rw [if_neg h5]
  by_cases h6 : k = 26
  · subst h6
    rw [if_pos rfl]
    by_cases hv : v ≤ 255
    · rw [decide_eq_true hv]; exact fac26 hv
    · rw [decide_eq_false hv]; exact fac26_no (by omega)
  rw [if_neg h6]
  by_cases h7 : k = 27
  · subst h7
    rw [if_pos rfl]
    cases hp : shB 27 v len 27 0 with
    | false => exact fac27_no hp
    | true => rw [Bool.true_and]; exact fac27_yes hs hp
  rw [if_neg h7]
  by_cases h8 : k = 28
  · subst h8
    rw [if_pos rfl]
    exact fac28
  rw [if_neg h8]
  by_cases h9 : k = 29
  · subst h9
    rw [if_pos rfl]
    exact fac29
  rw [if_neg h9]
  by_cases h10 : k = 30
  · subst h10
    rw [if_pos rfl]
    exact fac30
  rw [if_neg h10]
  by_cases h11 : k = 31
  · subst h11
    rw [if_pos rfl]
    cases hp : baB 31 s v m len 31 (-1) with
    | false => exact fac31_no hp
    | true => rw [Bool.true_and]; exact fac31_yes hall hp
  rw [if_neg h11]
  by_cases h12 : k = 32
  · subst h12
    rw [if_pos rfl]
    cases hp : baB 32 s v m len 32 1 with
    | false => exact fac32_no hp
    | true =>
      have hl : len = 1 := by unfold baB shB at hp; simp at hp; omega
      subst hl
      obtain ⟨b, o, e, rfl, -⟩ := hk (by omega)
      obtain ⟨hb, k', s', v', m', a', l', c', hkid, h⟩ := hk.k0 (by omega)
      rw [Bool.true_and]
      exact fac32_yes hb hkid h.exp hp
  rw [if_neg h12]
  by_cases h13 : k = 33
  · subst h13
    rw [if_pos rfl]
    cases hp : baB 33 s v m len 33 1 with
    | false => exact fac33_no hp
    | true =>
      have hl : len = 1 := by unfold baB shB at hp; simp at hp; omega
      subst hl
      obtain ⟨b, o, e, rfl, -⟩ := hk (by omega)
      obtain ⟨hb, k', s', v', m', a', l', c', hkid, h⟩ := hk.k0 (by omega)
      rw [Bool.true_and]
      exact fac33_yes hb hkid (below_any h.lev 0) hp
  rw [if_neg h13]
  exact facN h0 h1 h2 h3 h4 h5 h6 h7 h8 h9 h10 h11 h12 h13
theorem lev_row (hs : s.size ≤ maxLen) (hl : len ≤ cap) (hc : cap ≤ maxLen) (hk : RowK w0 a len K) : Lev w0 (nd k s v m a len cap) (levI k s v m len K) := by
  have hf := fac_row (k := k) (v := v) (m := m) hs hl hc hk
  unfold levI
  by_cases h1 : k = 35
  · subst h1
    rw [if_pos rfl]
    cases hp : shB 35 v len 35 2 with
    | false => exact lev35 (op_no hp)
    | true =>
      cases m with
      | true => exact lev35 (op_mark hp)
      | false =>
        have hl : len = 2 := by unfold shB at hp; simp at hp; omega
        subst hl
        obtain ⟨b, o, e, rfl, -⟩ := hk (by omega)
        obtain ⟨hb, k', s', v', m', a', l', c', hkid, h⟩ := hk.k0 (by omega)
        obtain ⟨k2, s2, v2, m2, a2, l2, c2, hkid2, h2⟩ := hk.kj 0 (by omega)
        exact lev35 (op_two hb hkid (by simpa using hkid2) h.lev h2.lev hp)
  rw [if_neg h1]
  by_cases h2 : k = 34
  · subst h2
    rw [if_pos rfl]
    cases hp : shB 34 v len 34 1 with
    | false => exact lev34_no hp
    | true =>
      have hl : len = 1 := by unfold shB at hp; simp at hp; omega
      subst hl
      obtain ⟨b, o, e, rfl, -⟩ := hk (by omega)
      obtain ⟨hb, k', s', v', m', a', l', c', hkid, h⟩ := hk.k0 (by omega)
      exact lev34_yes hb hkid (below_any h.lev 1) hp
  rw [if_neg h2]
  exact levF hf h1 h2
end
end Go.Proofs.Ytkhbmamgfkpdbaa
