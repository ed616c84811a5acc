/-
  A store told by what its files hold, where its riders stand, and its names.
-/
import Derived.Test.YtbpelchampegaaaStoreI
import Derived.Test.YtbpelchampegaaaStoreJ
import Derived.Test.YtbpelchampegaaaStoreK
namespace Go.Proofs.Ytbpelchampegaaa
open Go.ChangeShapes Go.WideShapes Go.ChangeAt Go.RowKit
set_option linter.unusedVariables false
/-- what the directory has: the files by their names, in their order, and nothing else -/
def Names (s : StM) (nms : List ByteArray) : Prop := (∀ (i : Nat) (nm : ByteArray), nms[i]? = some nm → ∃ q : FileM, s.fs[i]? = some q ∧ s.dir nm = .held (.pointer (some ⟨q.blk, 0, none⟩))) ∧ ∀ nm : ByteArray, (∀ x ∈ nms, x.data.toList ≠ nm.data.toList) → s.dir nm = .held (.pointer none)
def Sto (W : World) (B p cap used : Nat) (xss : List (List Int)) (rs : List (Nat × Nat)) (nms : List ByteArray) : Prop :=
  ∃ s g, StoreAt W B p s g ∧ s.cap = cap ∧ s.used = used ∧ s.fs.map FileM.xs = xss ∧ s.rs = rs ∧ Names s nms ∧ s.mn ≤ nms.length ∧ B ≤ W.heap.size
section
variable {W : World} {B p cap used : Nat} {xss : List (List Int)} {rs : List (Nat × Nat)} {nms : List ByteArray}
theorem Sto.rest {V : World} (h : Sto W B p cap used xss rs nms) (hr : Rest W V) : Sto V B p cap used xss rs nms := by
  obtain ⟨s, g, h1, h2, h3, h4, h5, h6, h7, h8⟩ := h
  exact ⟨s, g, h1.rest hr, h2, h3, h4, h5, h6, h7, by rw [hr.heap]; exact h8⟩
theorem Sto.below {V : World} (h : Sto W B p cap used xss rs nms) (hr : Below W.heap.size W V) : Sto V B p cap used xss rs nms := by
  obtain ⟨s, g, h1, h2, h3, h4, h5, h6, h7, h8⟩ := h
  exact ⟨s, g, h1.below hr, h2, h3, h4, h5, h6, h7, Nat.le_trans h8 hr.size⟩
theorem file_of {s : StM} {k : Nat} {xs : List Int} (h : (s.fs.map FileM.xs)[k]? = some xs) : ∃ q : FileM, s.fs[k]? = some q ∧ q.xs = xs := by
  rw [List.getElem?_map] at h
  obtain ⟨q, h1, h2⟩ := Option.map_eq_some_iff.1 h
  exact ⟨q, h1, h2⟩
theorem names_set {s : StM} {k : Nat} {q : FileM} (q' : FileM) (hq : s.fs[k]? = some q) (hb : q'.blk = q.blk) (h6 : Names s nms) {s' : StM} (hfs : s'.fs = s.fs.set k q') (hd : s'.D = s.D) : Names s' nms := by
  have hdd : ∀ nm, s'.dir nm = s.dir nm := fun nm => by unfold StM.dir; rw [hd]
  refine ⟨fun i nm hi => ?_, fun nm hn => by rw [hdd]; exact h6.2 nm hn⟩
  obtain ⟨q2, e1, e2⟩ := h6.1 i nm hi
  by_cases hik : k = i
  · subst hik
    rw [hq] at e1
    cases e1
    exact ⟨q', by rw [hfs, List.getElem?_set_self (List.getElem?_eq_some_iff.1 hq).1], by rw [hdd, hb]; exact e2⟩
  · exact ⟨q2, by rw [hfs, List.getElem?_set_ne hik]; exact e1, by rw [hdd]; exact e2⟩
theorem Sto.at_ (h : Sto W B p cap used xss rs nms) {f : Int} {i k a : Nat} (hf : f = (i : Int) + 1) (hi : rs[i]? = some (k, a)) : Calls Try.prog 23 #[.pointer (some ⟨p, 0, none⟩), .int .i64 f] W fun e w' => e = .returned (.int .i64 (a : Int)) ∧ w' = W := by
  obtain ⟨s, g, h1, h2, h3, h4, rfl, h6, h7⟩ := h
  obtain ⟨b, c, hR, -, -⟩ := h1.rid hi hf
  exact at_any h1 hR
theorem Sto.seek (h : Sto W B p cap used xss rs nms) {f : Int} {i k a : Nat} (hf : f = (i : Int) + 1) (hi : rs[i]? = some (k, a)) {xs : List Int} (hk : xss[k]? = some xs) (n : Int) (n0 : 0 ≤ n) (n1 : n < 4294967296) : Calls Try.prog 21 #[.pointer (some ⟨p, 0, none⟩), .int .i64 f, .int .u32 n] W fun e w' => e = .returned (.tuple #[]) ∧ Sto w' B p cap used xss (rs.set i (k, seekN n xs.length)) nms ∧ Below B W w' := by
  obtain ⟨s, g, h1, h2, h3, rfl, rfl, h6, h7, h8⟩ := h
  obtain ⟨b, c, hR, -, -⟩ := h1.rid hi hf
  obtain ⟨q, hq, rfl⟩ := file_of hk
  exact (seek_any h1 hR hq n n0 n1).mono fun e w' ⟨he, hs, hb⟩ => ⟨he, ⟨_, g, hs, h2, h3, rfl, rfl, h6, h7, Nat.le_trans h8 hb.size⟩, hb⟩
theorem map_set_xs {fs : List FileM} {k : Nat} {q' : FileM} : (fs.set k q').map FileM.xs = (fs.map FileM.xs).set k q'.xs := by rw [List.map_set]
theorem Sto.wword (h : Sto W B p cap used xss rs nms) {f : Int} {i k a : Nat} (hf : f = (i : Int) + 1) (hi : rs[i]? = some (k, a)) {xs : List Int} (hk : xss[k]? = some xs) (hle : a ≤ xs.length) (z : Int) (z0 : 0 ≤ z) (z1 : z ≤ 4294967295) (hroom : used + (a + 4 - xs.length) ≤ cap) (hcap : a + 4 ≤ cap) : Calls Try.prog 14 #[.pointer (some ⟨p, 0, none⟩), .int .i64 f, .int .u32 z] W fun e w' => e = .returned (.int .i64 0) ∧ Sto w' B p cap (used + (a + 4 - xs.length)) (xss.set k (wroteL xs a (byt z))) (rs.set i (k, a + 4)) nms ∧ Below B W w' := by
  obtain ⟨s, g, h1, rfl, rfl, rfl, rfl, h6, h7, h8⟩ := h
  obtain ⟨b, c, hR, -, -⟩ := h1.rid hi hf
  obtain ⟨q, hq, rfl⟩ := file_of hk
  exact (wword_any h1 h8 hR hq hle z z0 z1 hroom hcap).mono fun e w' ⟨he, v, g', hs, hb⟩ => ⟨he, ⟨_, g', hs, rfl, rfl, map_set_xs, rfl, names_set { q with val := v, xs := wroteL q.xs a (byt z) } hq rfl h6 (s' := s.puts i (k, a) q v (byt z)) rfl rfl, h7, Nat.le_trans h8 hb.size⟩, hb⟩
theorem Sto.write (h : Sto W B p cap used xss rs nms) {f : Int} {i k a : Nat} (hf : f = (i : Int) + 1) (hi : rs[i]? = some (k, a)) {xs : List Int} (hk : xss[k]? = some xs) (hle : a ≤ xs.length) (z : Int) (z0 : 0 ≤ z) (z1 : z ≤ 255) (hroom : used + (a + 1 - xs.length) ≤ cap) (hcap : a + 1 ≤ cap) : Calls Try.prog 13 #[.pointer (some ⟨p, 0, none⟩), .int .i64 f, .int .u8 z] W fun e w' => e = .returned (.int .i64 0) ∧ Sto w' B p cap (used + (a + 1 - xs.length)) (xss.set k (wrote xs a z)) (rs.set i (k, a + 1)) nms ∧ Below B W w' := by
  obtain ⟨s, g, h1, rfl, rfl, rfl, rfl, h6, h7, h8⟩ := h
  obtain ⟨b, c, hR, -, -⟩ := h1.rid hi hf
  obtain ⟨q, hq, rfl⟩ := file_of hk
  exact (bwrite_any h1 h8 hR hq hle z z0 z1 hroom hcap).mono fun e w' ⟨he, v, g', hs, hb⟩ => ⟨he, ⟨_, g', hs, rfl, rfl, map_set_xs, rfl, names_set { q with val := v, xs := wroteL q.xs a [z] } hq rfl h6 (s' := s.puts i (k, a) q v [z]) rfl rfl, h7, Nat.le_trans h8 hb.size⟩, hb⟩
theorem Sto.read (h : Sto W B p cap used xss rs nms) {f : Int} {i k a : Nat} (hf : f = (i : Int) + 1) (hi : rs[i]? = some (k, a)) {xs : List Int} (hk : xss[k]? = some xs) (hlt : a < xs.length) : Calls Try.prog 20 #[.pointer (some ⟨p, 0, none⟩), .int .i64 f] W fun e w' => e = .returned (.int .u8 (nth xs a)) ∧ Sto w' B p cap used xss (rs.set i (k, a + 1)) nms ∧ Below B W w' := by
  obtain ⟨s, g, h1, h2, h3, rfl, rfl, h6, h7, h8⟩ := h
  obtain ⟨b, c, hR, -, -⟩ := h1.rid hi hf
  obtain ⟨q, hq, rfl⟩ := file_of hk
  exact (read_any h1 hR hq hlt).mono fun e w' ⟨he, hs, hb⟩ => ⟨he, ⟨_, g, hs, h2, h3, rfl, rfl, h6, h7, Nat.le_trans h8 hb.size⟩, hb⟩
theorem Sto.rdword (h : Sto W B p cap used xss rs nms) {f : Int} {i k a : Nat} (hf : f = (i : Int) + 1) (hi : rs[i]? = some (k, a)) {xs : List Int} (hk : xss[k]? = some xs) (hle : a + 4 ≤ xs.length) : Calls Try.prog 22 #[.pointer (some ⟨p, 0, none⟩), .int .i64 f] W fun e w' => e = .returned (.int .u32 (leb xs a 4)) ∧ Sto w' B p cap used xss (rs.set i (k, a + 4)) nms ∧ Below B W w' := by
  obtain ⟨s, g, h1, h2, h3, rfl, rfl, h6, h7, h8⟩ := h
  obtain ⟨b, c, hR, -, -⟩ := h1.rid hi hf
  obtain ⟨q, hq, rfl⟩ := file_of hk
  exact (rdword_any h1 hR hq hle).mono fun e w' ⟨he, hs, hb⟩ => ⟨he, ⟨_, g, hs, h2, h3, rfl, rfl, h6, h7, Nat.le_trans h8 hb.size⟩, hb⟩
theorem Sto.get (h : Sto W B p cap used xss rs nms) {k : Nat} {nm : ByteArray} (hn : nms[k]? = some nm) (hs : nm.size ≤ maxLen) (hm : May W nm) {xs : List Int} (hk : xss[k]? = some xs) : Calls Try.prog 15 #[.pointer (some ⟨p, 0, none⟩), .string nm] W fun e w' => ∃ v, e = .returned (.tuple #[v, .int .i64 0]) ∧ w'.ownsRow W.heap.size 5 1 v xs.length (valsOf .u8 xs) ∧ Below W.heap.size W w' := by
  obtain ⟨s, g, h1, h2, h3, rfl, rfl, h6, h7, h8⟩ := h
  obtain ⟨q, hq, hd⟩ := h6.1 k nm hn
  obtain ⟨q', hq', rfl⟩ := file_of hk
  rw [hq] at hq'
  cases hq'
  exact get_yes h1 h8 hs hm hq hd
theorem Sto.old (h : Sto W B p cap used xss rs nms) {k : Nat} {nm : ByteArray} (hn : nms[k]? = some nm) (hs : nm.size ≤ maxLen) (hl : rs.length < 255) : Calls Try.prog 11 #[.pointer (some ⟨p, 0, none⟩), .string nm] W fun e w' => e = .returned (.int .i64 ((rs.length : Int) + 1)) ∧ Sto w' B p cap used xss (rs ++ [(k, 0)]) nms ∧ Below B W w' := by
  obtain ⟨s, g, h1, h2, h3, rfl, rfl, h6, h7, h8⟩ := h
  obtain ⟨q, hq, hd⟩ := h6.1 k nm hn
  refine (old_yes h1 h8 hs hq hd hl).mono fun e w' ⟨he, ⟨rv, g', hs⟩, hb⟩ => ⟨he, ⟨_, g', hs, h2, h3, ?_, rfl, names_set { q with rid := true } hq rfl h6 (s' := s.rode k q rv) rfl rfl, h7, Nat.le_trans h8 hb.size⟩, hb⟩
  show (s.fs.set k { q with rid := true }).map FileM.xs = _
  rw [List.map_set]
  apply List.ext_getElem?
  intro j
  by_cases e : k = j
  · subst e
    have hkl := (List.getElem?_eq_some_iff.1 hq).1
    rw [List.getElem?_set_self (by simpa using hkl), List.getElem?_map, hq]
    rfl
  · rw [List.getElem?_set_ne e]
theorem keyLit (l : List UInt8) : WideAt.IsKeyLit (.string l) := by
  first
    | trivial
    | simp [WideAt.IsKeyLit]
theorem Sto.put (h : Sto W B p cap used xss rs nms) (hln : xss.length = nms.length) {nm : ByteArray} (hs : nm.size ≤ maxLen) (hm : May W nm) (hnew : ∀ x ∈ nms, x.data.toList ≠ nm.data.toList) (hmn : nms.length ≤ 5) {A : Option Addr} {n c : Nat} {zs : List Int} (hrd : Rd W W.heap.size .u8 A n zs) (hz : ∀ z ∈ zs, 0 ≤ z ∧ z ≤ 255) (hfit : used + n ≤ cap) :
    Calls Try.prog 10 #[.pointer (some ⟨p, 0, none⟩), .string nm, .slice A n c] W fun e w' => e = .returned (.int .i64 0) ∧ Sto w' B p cap (used + n) (xss ++ [zs]) rs (nms ++ [nm]) ∧ Below B W w' := by
  obtain ⟨s, g, h1, rfl, rfl, rfl, rfl, h6, h7, h8⟩ := h
  refine (put_new h1 h8 hs hm (h6.2 nm hnew) (by omega) hrd hz hfit).mono fun e w' ⟨he, v, blk, g', hs2, hb⟩ => ⟨he, ⟨_, g', hs2, rfl, rfl, by simp, rfl, ⟨fun i x hi => ?_, fun x hx => ?_⟩, by simp; omega, Nat.le_trans h8 hb.size⟩, hb⟩
  · have hfl : s.fs.length = nms.length := by simpa using hln
    have hD : Maps.IsMap s.D := h1.hm.isMap
    by_cases hi2 : i < nms.length
    · rw [List.getElem?_append_left hi2] at hi
      obtain ⟨q, e1, e2⟩ := h6.1 i x hi
      refine ⟨q, by show (s.fs ++ _)[i]? = _; rw [List.getElem?_append_left (by omega)]; exact e1, ?_⟩
      have hne : x.data.toList ≠ nm.data.toList := hnew x (List.mem_of_getElem? hi)
      show DataW.atKey (s.D.put _ _) _ _ = _
      rw [Maps.atKey_put_other (by simpa using hne)]
      exact e2
    · rw [List.getElem?_append_right (by omega)] at hi
      have hz0 : i - nms.length = 0 := by
        cases hz : i - nms.length with
        | zero => rfl
        | succ m => rw [hz] at hi; simp at hi
      rw [hz0] at hi
      simp at hi
      subst hi
      refine ⟨⟨blk, nm, v, zs, false⟩, by show (s.fs ++ _)[i]? = _; rw [List.getElem?_append_right (by omega), show i - s.fs.length = 0 by omega]; rfl, ?_⟩
      show DataW.atKey (s.D.put _ _) _ _ = _
      rw [Maps.atKey_put_same hD (keyLit _)]
  · have hne : nm.data.toList ≠ x.data.toList := hx nm (by simp)
    show DataW.atKey (s.D.put _ _) _ _ = _
    rw [Maps.atKey_put_other (by intro e; injection e with e; exact hne e.symm)]
    exact h6.2 x fun y hy => hx y (by simp [hy])
theorem sto_new {w' : World} {n mb : Nat} {g : Nat → Tag} (h : StoreAt w' B p (St0 n mb) g) (hb : B ≤ w'.heap.size) : Sto w' B p n 0 [] [] [] :=
  ⟨_, g, h, rfl, rfl, rfl, rfl, ⟨fun i nm hi => by simp at hi, fun nm _ => rfl⟩, by simp [St0], hb⟩
end
end Go.Proofs.Ytbpelchampegaaa
