/-
  An object as data; its bytes, and that two objects that may be of the same bytes are one. Nothing of the program.
-/
import Derived.Test.YtekipbfafofkdaaBase
namespace Go.Proofs.Ytekipbfafofkdaa
set_option linter.unusedVariables false
structure Ob where
  name : ByteArray
  key : Int
  imps : List (ByteArray × Int)
  vars : Int
  text : List Int
  code : List Int
  ents : List Int
  fixs : List (Int × Int × Int)
def bts (s : ByteArray) : List Int := s.data.toList.map fun c => (c.toNat : Int)
def w4 (n : Int) : List Int := [n % 256, n / 256 % 256, n / 65536 % 256, n / 16777216 % 256]
def nm (s : ByteArray) : List Int := ((s.size : Int) % 256) :: bts s
def impE (p : ByteArray × Int) : List Int := nm p.1 ++ w4 p.2
def fixE (p : Int × Int × Int) : List Int := w4 p.1 ++ [p.2.1 % 256, p.2.2 % 256]
def bytesO (o : Ob) : List Int :=
  [79, 49] ++ (nm o.name ++ (w4 o.key ++ ([(o.imps.length : Int) % 256] ++ (o.imps.flatMap impE ++ (w4 o.vars ++ (w4 o.text.length ++ (o.text ++ (w4 o.code.length ++ (o.code.flatMap w4 ++ ([(o.ents.length : Int) % 256] ++ (o.ents.flatMap w4 ++ (w4 o.fixs.length ++ o.fixs.flatMap fixE))))))))))))
/-- words of which none begins another -/
def PC {α : Type} (f : α → List Int) (ok : α → Prop) : Prop := ∀ a b x y, ok a → ok b → f a ++ x = f b ++ y → a = b ∧ x = y
theorem pc_w4 : PC w4 (fun n => 0 ≤ n ∧ n < 4294967296) := by
  intro a b x y ha hb h
  simp only [w4, List.cons_append, List.nil_append, List.cons.injEq] at h
  obtain ⟨h0, h1, h2, h3, h4⟩ := h
  exact ⟨by omega, h4⟩
theorem bts_inj {a b : ByteArray} (h : bts a = bts b) : a = b := by
  unfold bts at h
  have hf : Function.Injective (fun c : UInt8 => (c.toNat : Int)) := fun c d e => by
    have e : (c.toNat : Int) = d.toNat := e
    exact UInt8.toNat_inj.1 (by omega)
  have h2 : a.data.toList = b.data.toList := List.map_inj_right (fun c d => hf (a₁ := c) (a₂ := d)) |>.1 h
  cases a with | mk da => cases b with | mk db => exact congrArg _ (Array.toList_inj.1 h2)
theorem bts_len (a : ByteArray) : (bts a).length = a.size := by simp [bts]
theorem pc_nm : PC nm (fun s => s.size < 256) := by
  intro a b x y ha hb h
  simp only [nm, List.cons_append, List.cons.injEq] at h
  obtain ⟨h0, h1⟩ := h
  have hl : (bts a).length = (bts b).length := by rw [bts_len, bts_len]; omega
  obtain ⟨e1, e2⟩ := List.append_inj h1 hl
  exact ⟨bts_inj e1, e2⟩
theorem pc_imp : PC impE (fun p => p.1.size < 256 ∧ 0 ≤ p.2 ∧ p.2 < 4294967296) := by
  rintro ⟨a, p⟩ ⟨b, q⟩ x y ha hb h
  simp only [impE, List.append_assoc] at h
  obtain ⟨e1, h⟩ := pc_nm _ _ _ _ ha.1 hb.1 h
  obtain ⟨e2, h⟩ := pc_w4 _ _ _ _ ha.2 hb.2 h
  exact ⟨by rw [show a = b from e1, show p = q from e2], h⟩
theorem pc_fix : PC fixE (fun p => (0 ≤ p.1 ∧ p.1 < 4294967296) ∧ (0 ≤ p.2.1 ∧ p.2.1 < 256) ∧ 0 ≤ p.2.2 ∧ p.2.2 < 256) := by
  rintro ⟨a, p, q⟩ ⟨b, r, t⟩ x y ⟨ha, hp, hq⟩ ⟨hb, hr, ht⟩ h
  simp only [fixE, List.append_assoc] at h
  obtain ⟨e1, h⟩ := pc_w4 _ _ _ _ ha hb h
  simp only [List.cons_append, List.nil_append, List.cons.injEq] at h
  obtain ⟨e2, e3, h9⟩ := h
  simp only at e2 e3 hp hq hr ht e1
  obtain rfl : p = r := by omega
  obtain rfl : q = t := by omega
  exact ⟨by rw [e1], h9⟩
theorem pc_list {α : Type} {f : α → List Int} {ok : α → Prop} (hf : PC f ok) : ∀ (l m : List α) (x y : List Int), l.length = m.length → (∀ a ∈ l, ok a) → (∀ a ∈ m, ok a) → l.flatMap f ++ x = m.flatMap f ++ y → l = m ∧ x = y
  | [], [], x, y, _, _, _, h => ⟨rfl, by simpa using h⟩
  | [], b :: m, _, _, hl, _, _, _ => by simp at hl
  | a :: l, [], _, _, hl, _, _, _ => by simp at hl
  | a :: l, b :: m, x, y, hl, ha, hb, h => by
    simp only [List.flatMap_cons, List.append_assoc] at h
    obtain ⟨e1, h⟩ := hf _ _ _ _ (ha a (by simp)) (hb b (by simp)) h
    obtain ⟨e2, h⟩ := pc_list hf l m x y (by simpa using hl) (fun c hc => ha c (by simp [hc])) (fun c hc => hb c (by simp [hc])) h
    exact ⟨by rw [e1, e2], h⟩
/-- what is asked of an object for its bytes to tell it -/
structure Ob.Tells (o : Ob) : Prop where
  name : o.name.size < 256
  key : 0 ≤ o.key ∧ o.key < 4294967296
  ni : o.imps.length < 256
  imps : ∀ p ∈ o.imps, p.1.size < 256 ∧ 0 ≤ p.2 ∧ p.2 < 4294967296
  vars : 0 ≤ o.vars ∧ o.vars < 4294967296
  nt : o.text.length < 4294967296
  nc : o.code.length < 4294967296
  code : ∀ x ∈ o.code, 0 ≤ x ∧ x < 4294967296
  ne : o.ents.length < 256
  ents : ∀ x ∈ o.ents, 0 ≤ x ∧ x < 4294967296
  nf : o.fixs.length < 4294967296
  fixs : ∀ p ∈ o.fixs, (0 ≤ p.1 ∧ p.1 < 4294967296) ∧ (0 ≤ p.2.1 ∧ p.2.1 < 256) ∧ 0 ≤ p.2.2 ∧ p.2.2 < 256
theorem bytesO_inj {a b : Ob} (ha : a.Tells) (hb : b.Tells) (h : bytesO a = bytesO b) : a = b := by
  unfold bytesO at h
  have h := List.append_cancel_left h
  obtain ⟨e1, h⟩ := pc_nm _ _ _ _ ha.name hb.name h
  obtain ⟨e2, h⟩ := pc_w4 _ _ _ _ ha.key hb.key h
  simp only [List.cons_append, List.nil_append, List.cons.injEq] at h
  obtain ⟨e3, h⟩ := h
  have hni := ha.ni
  have hni' := hb.ni
  obtain ⟨e4, h⟩ := pc_list pc_imp _ _ _ _ (by omega) ha.imps hb.imps h
  obtain ⟨e5, h⟩ := pc_w4 _ _ _ _ ha.vars hb.vars h
  have hnt := ha.nt
  have hnt' := hb.nt
  obtain ⟨e6, h⟩ := pc_w4 _ _ _ _ ⟨by omega, by omega⟩ ⟨by omega, by omega⟩ h
  obtain ⟨e7, h⟩ := List.append_inj h (by omega)
  have hnc := ha.nc
  have hnc' := hb.nc
  obtain ⟨e8, h⟩ := pc_w4 _ _ _ _ ⟨by omega, by omega⟩ ⟨by omega, by omega⟩ h
  obtain ⟨e9, h⟩ := pc_list pc_w4 _ _ _ _ (by omega) ha.code hb.code h
  simp only [List.cons.injEq] at h
  obtain ⟨e10, h⟩ := h
  have hne := ha.ne
  have hne' := hb.ne
  obtain ⟨e11, h⟩ := pc_list pc_w4 _ _ _ _ (by omega) ha.ents hb.ents h
  have hnf := ha.nf
  have hnf' := hb.nf
  obtain ⟨e12, h⟩ := pc_w4 _ _ _ _ ⟨by omega, by omega⟩ ⟨by omega, by omega⟩ h
  obtain ⟨e13, -⟩ := pc_list pc_fix a.fixs b.fixs [] [] (by omega) ha.fixs hb.fixs (by simpa using h)
  cases a with | mk => cases b with | mk => simp_all
end Go.Proofs.Ytekipbfafofkdaa
