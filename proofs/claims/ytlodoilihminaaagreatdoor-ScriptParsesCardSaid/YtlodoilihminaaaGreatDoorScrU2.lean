/-
  A text as bytes; a text's words by strings.Split; errors' variables last.
-/
import Derived.Test.YtlodoilihminaaaGreatDoorScrU
import Derived.Lib.ConvBytes
namespace Go.Proofs.YtlodoilihminaaaGreatDoor
open Go.ChangeShapes Go.WideShapes Go.ChangeAt Go.RowKit
set_option linter.unusedVariables false
set_option linter.unusedSimpArgs false
theorem gErrS : Tryz.prog.globalNamed "strconv.ErrSyntax" = some 3 := by kernel_rfl
theorem gErrR : Tryz.prog.globalNamed "strconv.ErrRange" = some 4 := by kernel_rfl
theorem ErrT.below {w w' : World} (h : ErrT w) (hb : Below w.heap.size w w') : ErrT w' := by
  obtain ⟨⟨t1, p1, h1⟩, t2, p2, h2⟩ := h
  have c1 := World.block_lt_of_cell? _ _ ((var?_cell gErrS h1 0).trans rfl)
  have c2 := World.block_lt_of_cell? _ _ ((var?_cell gErrR h2 0).trans rfl)
  exact ⟨⟨t1, p1, var?_below hb gErrS c1 h1⟩, t2, p2, var?_below hb gErrR c2 h2⟩
theorem nth_bytes (l : List UInt8) (i : Nat) (h : i < l.length) : nth (l.map fun c => (c.toNat : Int)) i = (l[i].toNat : Int) := by
  rw [nth_eq _ _ (by simpa using h)]
  simp
theorem conv_sb (W : World) (l : List UInt8) : ∃ c W2, l.length ≤ c ∧ Below W.heap.size W W2 ∧ Rd W2 W2.heap.size .u8 (some ⟨W.heap.size, 0, none⟩) l.length (l.map fun c => (c.toNat : Int)) ∧ (convert 9 24 (.string (S l))).run Tryz.prog W = .ok (.slice (some ⟨W.heap.size, 0, none⟩) l.length c) W2 := by
  have h := Lib.run_convert_string_bytes (P := Tryz.prog) W 9 24 5 (S l) Tryz.underlying9 Tryz.underlying24 Tryz.underlying5
  rw [S_size] at h
  refine ⟨_, Lib.bytesWorld W 5 (S l), grownCap_ge _ _ _ _, ⟨rfl, rfl, rfl, ?_, fun i hi => Lib.bytesWorld_at_old W _ _ i hi⟩, ⟨by simp, fun hn => ⟨_, rfl, ?_, fun i hi => ?_⟩⟩, h⟩
  · rw [Lib.bytesWorld_size]; omega
  · show W.heap.size < _; rw [Lib.bytesWorld_size]; omega
  · have e : (⟨W.heap.size, 0, none⟩ : Addr).add i = ⟨W.heap.size, i, none⟩ := by unfold Addr.add; split <;> simp_all
    rw [e, Lib.bytesWorld_cell W _ (S l) i (by rw [S_size]; exact hi), nth_bytes l i hi]
    rw [show (S l).data.toList = l from rfl, List.getD_eq_getElem?_getD, List.getElem?_eq_getElem hi]
    rfl
theorem spl_mem (l : List UInt8) : ∀ x ∈ spl l, x.length ≤ l.length := by
  induction l with
  | nil => intro x hx; simp [spl] at hx; simp [hx]
  | cons c l ih =>
    intro x hx
    unfold spl at hx
    split at hx
    · rw [List.mem_cons] at hx
      rcases hx with rfl | hx
      · simp
      · have := ih x hx; simp only [List.length_cons]; omega
    · split at hx
      · next h => exact absurd h (spl_ne l)
      · next w r h =>
        rw [h] at ih
        rw [List.mem_cons] at hx
        rcases hx with rfl | hx
        · have := ih w (by simp); simp only [List.length_cons]; omega
        · have := ih x (by simp [hx]); simp only [List.length_cons]; omega
theorem spl_count (l : List UInt8) : (spl l).length ≤ l.length + 1 := by
  induction l with
  | nil => simp [spl]
  | cons c l ih =>
    unfold spl
    split
    · simp only [List.length_cons]; omega
    · split
      · next h => exact absurd h (spl_ne l)
      · next w r h => rw [h] at ih; simp only [List.length_cons] at ih ⊢; omega
theorem split_any (l : List UInt8) (hl : l.length ≤ 1000000) (W : World) (hM : MxT W) : Calls Tryz.prog 28 #[.string (S l), .string ⟨#[32]⟩] W fun e w' => e = .returned (.slice (some ⟨W.heap.size, 0, none⟩) (spl l).length (spl l).length) ∧ NmRow w' w'.heap.size (some ⟨W.heap.size, 0, none⟩) (spl l).length (spl l) ∧ Below W.heap.size W w' := by
  obtain ⟨m, hm⟩ := hM
  have h := Tryz.strings_Split (S l) ⟨#[32]⟩ m W (by rw [S_size]; omega) hm (by decide)
  have hc : Lib.splitK [32] 0 (Lib.countB (S l) ⟨#[32]⟩) l = spl l := splitK_spl _ l rfl
  have hd := Lib.splitB_data ⟨#[32]⟩ 0 (Lib.countB (S l) ⟨#[32]⟩) (S l)
  rw [show (S l).data.toList = l from rfl, show (⟨#[32]⟩ : ByteArray).data.toList = [32] from rfl, hc] at hd
  have hn := Lib.splitB_all ⟨#[32]⟩ (by decide) 0 (Lib.countB (S l) ⟨#[32]⟩) (S l) rfl
  have hlen : Lib.countB (S l) ⟨#[32]⟩ + 1 = (spl l).length := by rw [← hd, List.length_map, hn]
  have hmap : (Lib.splitB ⟨#[32]⟩ 0 (Lib.countB (S l) ⟨#[32]⟩) (S l)).map Value.string = (spl l).map fun x => Value.string (S x) := by
    rw [← hd, List.map_map]
    refine List.map_congr_left fun x _ => ?_
    show Value.string x = Value.string (S x.data.toList)
    congr 1
  rw [hlen, hmap] at h
  refine h.mono ?_
  rintro e w' ⟨rfl, rfl⟩
  refine ⟨rfl, ⟨rfl, fun x hx => ?_, fun h0 => ⟨_, rfl, ?_, fun i x hx => ?_⟩⟩, sbelow1 W _⟩
  · have := spl_mem l x hx; unfold maxLen; omega
  · simp
  · have e : (⟨W.heap.size, 0, none⟩ : Addr).add i = ⟨W.heap.size, i, none⟩ := by unfold Addr.add; split <;> simp_all
    rw [e, World.cell?_alloc_new W _ _ _]
    simp [hx]
theorem c1_len (l : List UInt8) : (c1 l).length ≤ l.length := by unfold c1; exact List.IsPrefix.length_le (List.takeWhile_prefix _)
theorem c2_len (l : List UInt8) : (c2 l).length ≤ l.length := by
  unfold c2
  rw [List.length_tail]
  have := List.IsSuffix.length_le (List.dropWhile_suffix (fun c : UInt8 => c != 32) (l := l))
  omega
theorem ofH_bytes (l : List UInt8) : ∀ x ∈ ofH l, 0 ≤ x ∧ x < 256 := by
  unfold ofH
  split
  · simp
  · induction l using ofHx.induct with
    | case1 a b l ih =>
      intro x hx
      rename_i h45
      rw [ofHx, List.mem_cons] at hx
      have := hv_lt a; have := hv_lt b
      rcases hx with rfl | hx
      · omega
      · by_cases h : l = [45]
        · rw [h] at hx; simp [ofHx] at hx
        · exact ih h x hx
    | case2 l h =>
      intro x hx
      match l, h with
      | [], _ => simp [ofHx] at hx
      | [a], _ => simp [ofHx] at hx
      | a :: b :: l, h => exact absurd rfl (h a b l)
theorem numOf_fits (l : List UInt8) : -9223372036854775808 ≤ numOf l ∧ numOf l ≤ 9223372036854775807 := by
  unfold numOf
  split
  · next v h =>
    split
    · exact atoi_fits h
    · omega
  · omega
end Go.Proofs.YtlodoilihminaaaGreatDoor
