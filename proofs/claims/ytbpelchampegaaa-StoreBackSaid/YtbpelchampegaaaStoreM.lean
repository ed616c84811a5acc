/-
  A store's words and bytes: what a word's four bytes are where they were written.
-/
import Derived.Test.YtbpelchampegaaaStoreL
import Derived.Test.YtbpelchampegaaaBytesB
import Derived.Test.YtbpelchampegaaaStoreKnown
namespace Go.Proofs.Ytbpelchampegaaa
open Go.ChangeShapes Go.WideShapes Go.ChangeAt Go.RowKit
set_option linter.unusedVariables false
/-- the same, and the riders' row lies below a bound -/
def StoL (W : World) (B p cap used : Nat) (xss : List (List Int)) (rs : List (Nat × Nat)) (nms : List ByteArray) (H : Nat) : Prop :=
  ∃ s g, StoreAt W B p s g ∧ s.cap = cap ∧ s.used = used ∧ s.fs.map FileM.xs = xss ∧ s.rs = rs ∧ Names s nms ∧ s.mn ≤ nms.length ∧ B ≤ W.heap.size ∧ ∀ b, s.rv.ownBlock = some b → b < H
section
variable {W : World} {B p cap used H : Nat} {xss : List (List Int)} {rs : List (Nat × Nat)} {nms : List ByteArray}
theorem Sto.low (h : Sto W B p cap used xss rs nms) : StoL W B p cap used xss rs nms W.heap.size := by
  obtain ⟨s, g, h1, h2, h3, h4, h5, h6, h7, h8⟩ := h
  exact ⟨s, g, h1, h2, h3, h4, h5, h6, h7, h8, fun b hb => (h1.lr b hb).2⟩
theorem StoL.sto (h : StoL W B p cap used xss rs nms H) : Sto W B p cap used xss rs nms := by
  obtain ⟨s, g, h1, h2, h3, h4, h5, h6, h7, h8, h9⟩ := h
  exact ⟨s, g, h1, h2, h3, h4, h5, h6, h7, h8⟩
theorem Sto.length (h : Sto W B p cap used xss rs nms) {f : Int} {i k a : Nat} (hf : f = (i : Int) + 1) (hi : rs[i]? = some (k, a)) {xs : List Int} (hk : xss[k]? = some xs) : Calls Try.prog 17 #[.pointer (some ⟨p, 0, none⟩), .int .i64 f] W fun e w' => e = .returned (.int .i64 (xs.length : Nat)) ∧ w' = W := by
  obtain ⟨s, g, h1, h2, h3, rfl, rfl, h6, h7, h8⟩ := h
  obtain ⟨b, c, hR, -, -⟩ := h1.rid hi hf
  obtain ⟨q, hq, rfl⟩ := file_of hk
  exact length_any h1 hR hq
theorem StoL.below {V : World} (h : StoL W B p cap used xss rs nms H) (hr : Below W.heap.size W V) : StoL V B p cap used xss rs nms H := by
  obtain ⟨s, g, h1, h2, h3, h4, h5, h6, h7, h8, h9⟩ := h
  exact ⟨s, g, h1.below hr, h2, h3, h4, h5, h6, h7, Nat.le_trans h8 hr.size, h9⟩
theorem StoL.read (h : StoL W B p cap used xss rs nms H) {f : Int} {i k a : Nat} (hf : f = (i : Int) + 1) (hi : rs[i]? = some (k, a)) {xs : List Int} (hk : xss[k]? = some xs) (hlt : a < xs.length) : Calls Try.prog 20 #[.pointer (some ⟨p, 0, none⟩), .int .i64 f] W fun e w' => e = .returned (.int .u8 (nth xs a)) ∧ StoL w' B p cap used xss (rs.set i (k, a + 1)) nms H ∧ Below B W w' ∧ ∀ c, H ≤ c → w'.heap[c]? = W.heap[c]? := by
  obtain ⟨s, g, h1, h2, h3, rfl, rfl, h6, h7, h8, h9⟩ := h
  obtain ⟨b, c, hR, -, -⟩ := h1.rid hi hf
  obtain ⟨q, hq, rfl⟩ := file_of hk
  have hb : b < H := h9 b (by rw [hR.row]; rfl)
  exact (read_far h1 hR hq hlt).mono fun e w' ⟨he, hs, hb, hf⟩ => ⟨he, ⟨_, g, hs, h2, h3, rfl, rfl, h6, h7, Nat.le_trans h8 hb.size, h9⟩, hb, fun c hc => hf c (by omega)⟩
end
theorem num2_any (e : Int) (w : World) : Calls Try.prog 9 #[.int .i64 e] w fun x w' => x = .returned (.int .i64 e) ∧ w' = w := by
  go_enter Try.func9, Try.ntmps9
  go_wp2_with fail
  go_ret
  exact ⟨rfl, rfl⟩
theorem nth_wrote (xs : List Int) (n : Nat) (x : Int) (h : n ≤ xs.length) (k : Nat) : nth (wrote xs n x) k = if k = n then x else nth xs k := by
  unfold wrote
  by_cases e : n = xs.length
  · rw [if_pos e]
    unfold nth
    rw [List.getD_eq_getElem?_getD, List.getD_eq_getElem?_getD]
    by_cases hk : k < xs.length
    · rw [List.getElem?_append_left hk, if_neg (by omega)]
    · rw [List.getElem?_append_right (by omega)]
      by_cases hkn : k = n
      · rw [if_pos hkn, show k - xs.length = 0 by omega]; rfl
      · rw [if_neg hkn, List.getElem?_eq_none (by simp; omega), List.getElem?_eq_none (by omega)]
  · rw [if_neg e]
    unfold nth
    rw [List.getD_eq_getElem?_getD, List.getD_eq_getElem?_getD]
    by_cases hkn : k = n
    · subst hkn
      rw [if_pos rfl, List.getElem?_set_self (by omega)]; rfl
    · rw [if_neg hkn, List.getElem?_set_ne (by omega)]
/-- a word's bytes, written at a place -/
def wroteW (xs : List Int) (n : Nat) (z : Int) : List Int := wroteL xs n (byt z)
theorem byt_eq (z : Int) : byt z = [z % 256, z / 256 % 256, z / 65536 % 256, z / 16777216 % 256] := rfl
theorem nth_wroteW (xs : List Int) (n : Nat) (z : Int) (h : n ≤ xs.length) (k : Nat) : nth (wroteW xs n z) k = if k = n + 3 then z / 16777216 % 256 else if k = n + 2 then z / 65536 % 256 else if k = n + 1 then z / 256 % 256 else if k = n then z % 256 else nth xs k := by
  unfold wroteW byt
  simp only [wroteL]
  have l1 := wrote_len xs n (z % 256) h
  have l2 := wrote_len (wrote xs n (z % 256)) (n + 1) (z / 256 % 256) (by omega)
  have l3 := wrote_len (wrote (wrote xs n (z % 256)) (n + 1) (z / 256 % 256)) (n + 1 + 1) (z / 65536 % 256) (by omega)
  rw [nth_wrote _ _ _ (by omega), nth_wrote _ _ _ (by omega), nth_wrote _ _ _ (by omega), nth_wrote _ _ _ (by omega)]
theorem wroteW_len (xs : List Int) (n : Nat) (z : Int) (h : n ≤ xs.length) : (wroteW xs n z).length = max xs.length (n + 4) := wroteL_len _ _ _ h
theorem leb_wroteW (xs : List Int) (n : Nat) (z : Int) (h : n ≤ xs.length) (z0 : 0 ≤ z) (z1 : z ≤ 4294967295) : leb (wroteW xs n z) n 4 = z := by
  simp only [leb]
  rw [nth_wroteW _ _ _ h, nth_wroteW _ _ _ h, nth_wroteW _ _ _ h, nth_wroteW _ _ _ h]
  simp
  omega
/-- so many bytes of a word, the lowest first -/
def wroteP (xs : List Int) (n : Nat) (z : Int) : Nat → List Int
  | 0 => xs
  | j + 1 => wrote (wroteP xs n z j) (n + j) (z / 256 ^ j % 256)
theorem wroteP_len (xs : List Int) (n : Nat) (z : Int) (h : n ≤ xs.length) (j : Nat) : (wroteP xs n z j).length = max xs.length (n + j) := by
  induction j with
  | zero => simp [wroteP]; omega
  | succ j ih => simp only [wroteP]; rw [wrote_len _ _ _ (by omega)]; omega
theorem wroteP_four (xs : List Int) (n : Nat) (z : Int) : wroteP xs n z 4 = wroteW xs n z := by
  unfold wroteW byt
  simp [wroteP, wroteL, Nat.add_assoc]
theorem wroteP_next {w2 : World} {B p cap U S j n a : Nat} {z y : Int} {X xs : List Int} {nms : List ByteArray} (h : Sto w2 B p cap (U + (S + j - n) + (S + j + 1 - (wroteP xs S z j).length)) ([X, wroteP xs S z j].set 1 (wrote (wroteP xs S z j) (S + j) y)) ([(0, a), (1, S + j)].set 1 (1, S + j + 1)) nms) (hn : xs.length = n) (hS : S ≤ n) (hy : y = z / 256 ^ j % 256) : Sto w2 B p cap (U + (S + (j + 1) - n)) [X, wroteP xs S z (j + 1)] [(0, a), (1, S + (j + 1))] nms := by
  have hl := wroteP_len xs S z (by omega) j
  subst hy
  rw [show U + (S + j - n) + (S + j + 1 - (wroteP xs S z j).length) = U + (S + (j + 1) - n) by omega] at h
  exact h
end Go.Proofs.Ytbpelchampegaaa
