/-
  An act's text, put together letter by letter.
-/
import Derived.Test.YtlodoilihminaaaGreatDoorScrI
import Derived.Lib.ItoaLen
namespace Go.Proofs.YtlodoilihminaaaGreatDoor
set_option linter.unusedVariables false
set_option linter.unusedSimpArgs false
def stT (a : Ac) (L : List UInt8) (c : UInt8) : List UInt8 :=
  if c = 110 ∨ c = 109 then sep L a.name else if c = 98 then sep L (hxT a.bytes) else if c = 116 then sep L (chs a.bytes) else if c = 105 then sep L (Lib.itoa a.mem) else if c = 102 then sep L (Lib.itoa a.fuel) else if c = 108 then a.names.foldl sep L else L
theorem sep_ne {L : List UInt8} (h : L ≠ []) (l : List UInt8) : sep L l = L ++ 32 :: l := if_neg h
theorem names_bls (ns : List (List UInt8)) : ∀ L : List UInt8, L ≠ [] → ns.foldl sep L = L ++ bls ns := by
  induction ns with
  | nil => intro L _; simp [bls]
  | cons n ns ih =>
    intro L h
    rw [List.foldl_cons, sep_ne h, ih _ (by simp)]
    simp [bls]
theorem sep_len (L l : List UInt8) : (sep L l).length ≤ L.length + l.length + 1 := by
  unfold sep
  split
  · omega
  · simp only [List.length_append, List.length_cons]; omega
theorem bls_len (ns : List (List UInt8)) (h : ∀ x ∈ ns, x.length ≤ 31) : (bls ns).length ≤ 32 * ns.length := by
  induction ns with
  | nil => simp [bls]
  | cons n ns ih =>
    have h1 := h n (by simp)
    have h2 := ih fun x hx => h x (by simp [hx])
    have e : bls (n :: ns) = 32 :: n ++ bls ns := rfl
    rw [e]
    simp only [List.length_append, List.length_cons]
    omega
theorem fn_len {l : List UInt8} (h : fnB l = true) : l.length ≤ 31 := by
  unfold fnB at h
  simp only [Bool.and_eq_true, decide_eq_true_eq] at h
  exact h.1.2
theorem hxT_len (b : List Int) : (hxT b).length ≤ 2 * b.length + 1 := by
  unfold hxT
  split
  · simp
  · have : ∀ b : List Int, (b.flatMap hx2).length = 2 * b.length := fun b => by
      induction b with
      | nil => rfl
      | cons x b ih => rw [List.flatMap_cons, List.length_append, ih]; simp [hx2]; omega
    rw [this]
    omega
theorem may_len {a : Ac} (hm : a.may = true) : a.name.length ≤ 31 ∧ a.bytes.length ≤ 65536 ∧ a.names.length ≤ 16 ∧ ∀ x ∈ a.names, x.length ≤ 31 := by
  obtain ⟨k, n, b, ns, m, f⟩ := a
  rcases may_kind hm with h | h | h | h | h | h | h <;> replace h : k = _ := h <;> subst h
  · replace hm : (fnB n && (decide (b.length ≤ 65536) && (ns.isEmpty && (decide (m = 0) && decide (f = 0))))) = true := hm
    simp only [Bool.and_eq_true, decide_eq_true_eq, List.isEmpty_iff] at hm
    obtain ⟨hn, hb, rfl, rfl, rfl⟩ := hm
    exact ⟨fn_len hn, hb, by simp, by simp⟩
  · replace hm : (fnB n && (plnB b && (ns.isEmpty && (decide (m = 0) && decide (f = 0))))) = true := hm
    simp only [Bool.and_eq_true, decide_eq_true_eq, List.isEmpty_iff] at hm
    obtain ⟨hn, hb, rfl, rfl, rfl⟩ := hm
    unfold plnB at hb
    simp only [Bool.and_eq_true, decide_eq_true_eq] at hb
    exact ⟨fn_len hn, by show b.length ≤ 65536; omega, by simp, by simp⟩
  · replace hm : (fnB n && (b.isEmpty && (ns.isEmpty && (decide (m = 0) && decide (f = 0))))) = true := hm
    simp only [Bool.and_eq_true, decide_eq_true_eq, List.isEmpty_iff] at hm
    obtain ⟨hn, rfl, rfl, rfl, rfl⟩ := hm
    exact ⟨fn_len hn, by simp, by simp, by simp⟩
  · replace hm : (fnB n && (b.isEmpty && (ns.isEmpty && (decide (m = 0) && decide (f = 0))))) = true := hm
    simp only [Bool.and_eq_true, decide_eq_true_eq, List.isEmpty_iff] at hm
    obtain ⟨hn, rfl, rfl, rfl, rfl⟩ := hm
    exact ⟨fn_len hn, by simp, by simp, by simp⟩
  · replace hm : (modB n && (b.isEmpty && (ns.isEmpty && (numB m && numB f)))) = true := hm
    simp only [Bool.and_eq_true, List.isEmpty_iff] at hm
    obtain ⟨hn, rfl, rfl, -, -⟩ := hm
    unfold modB at hn
    simp only [Bool.and_eq_true] at hn
    exact ⟨fn_len hn.1, by simp, by simp, by simp⟩
  · replace hm : (modB n && (b.isEmpty && (nmsB ns && (decide (m = 0) && numB f)))) = true := hm
    simp only [Bool.and_eq_true, List.isEmpty_iff] at hm
    obtain ⟨hn, rfl, hs, -, -⟩ := hm
    unfold modB at hn
    simp only [Bool.and_eq_true] at hn
    have h2 := (nms_ne hs).1
    unfold nmsB at hs
    simp only [Bool.and_eq_true, decide_eq_true_eq] at hs
    exact ⟨fn_len hn.1, by simp, hs.2.2, fun x hx => fn_len (h2 x hx)⟩
  · replace hm : (n.isEmpty && (b.isEmpty && (ns.isEmpty && (decide (m = 0) && decide (f = 0))))) = true := hm
    simp only [Bool.and_eq_true, decide_eq_true_eq, List.isEmpty_iff] at hm
    obtain ⟨rfl, rfl, rfl, rfl, rfl⟩ := hm
    simp
theorem stT_ne {a : Ac} {L : List UInt8} (h : L ≠ []) (c : UInt8) : stT a L c ≠ [] := by
  unfold stT
  rw [sep_ne h, sep_ne h, sep_ne h, sep_ne h, sep_ne h, names_bls _ _ h]
  repeat' split
  all_goals first | exact h | (simp; done) | simp [h]
theorem stT_len {a : Ac} (hm : a.may = true) (h3 : -9223372036854775808 ≤ a.mem ∧ a.mem ≤ 9223372036854775807) (h4 : -9223372036854775808 ≤ a.fuel ∧ a.fuel ≤ 9223372036854775807) {L : List UInt8} (h : L ≠ []) (c : UInt8) : (stT a L c).length ≤ L.length + 140000 := by
  obtain ⟨h1, h2, h5, h6⟩ := may_len hm
  have i1 := Lib.itoa_length_le a.mem h3.1 h3.2
  have i2 := Lib.itoa_length_le a.fuel h4.1 h4.2
  have i3 := hxT_len a.bytes
  have i4 := bls_len a.names h6
  have i5 : (chs a.bytes).length = a.bytes.length := by simp [chs]
  unfold stT
  rw [sep_ne h, sep_ne h, sep_ne h, sep_ne h, sep_ne h, names_bls _ _ h]
  repeat' split
  all_goals try simp only [List.length_append, List.length_cons]
  all_goals omega
theorem txt_fold {a : Ac} (hm : a.may = true) : (shW a.kind).foldl (stT a) (actWs.getD (a.kind - 1).toNat []) = a.txt := by
  obtain ⟨k, n, b, ns, m, f⟩ := a
  rcases may_kind hm with h | h | h | h | h | h | h <;> replace h : k = _ := h <;> subst h
  · show sep (sep wPut n) (hxT b) = wPut ++ (32 :: n ++ (32 :: hxT b))
    rw [sep_ne (L := wPut) (by decide), sep_ne (by simp [wPut])]; simp
  · show sep (sep wAdd n) (chs b) = wAdd ++ (32 :: n ++ (32 :: chs b))
    rw [sep_ne (L := wAdd) (by decide), sep_ne (by simp [wAdd])]; simp
  · show sep wDrop n = wDrop ++ (32 :: n)
    rw [sep_ne (by decide)]
  · show sep wBuild n = wBuild ++ (32 :: n)
    rw [sep_ne (by decide)]
  · show sep (sep (sep wRun n) (Lib.itoa m)) (Lib.itoa f) = wRun ++ (32 :: n ++ (32 :: Lib.itoa m ++ (32 :: Lib.itoa f)))
    rw [sep_ne (L := wRun) (by decide), sep_ne (L := wRun ++ 32 :: n) (by simp [wRun]), sep_ne (by simp [wRun])]; simp
  · show ns.foldl sep (sep (sep wMean n) (Lib.itoa f)) = wMean ++ (32 :: n ++ (32 :: Lib.itoa f ++ bls ns))
    rw [sep_ne (L := wMean) (by decide), sep_ne (by simp [wMean]), names_bls _ _ (by simp [wMean])]; simp
  · rfl
end Go.Proofs.YtlodoilihminaaaGreatDoor
