/-
  A row of bytes as a text: which two texts are one.
-/
import Derived.Test.YtekipbfafofkdaaObW
namespace Go.Proofs.Ytekipbfafofkdaa
open Go.ChangeShapes Go.WideShapes Go.ChangeAt Go.RowKit
set_option linter.unusedVariables false
def strOf (zs : List Int) : ByteArray := zs.foldl (fun r n => r.push (UInt8.ofNat n.toNat)) ByteArray.empty
theorem conv_rd {w : World} {B : Nat} {A : Option Addr} {n : Nat} {zs : List Int} (hr : Rd w B .u8 A n zs) (c : Nat) :
    (convert 24 9 (.slice A n c)).run Try.prog w = .ok (.string (strOf zs)) w := by
  rw [run_convert_bytes_string _ _ _ 5 _ _ _ Try.underlying24 Try.underlying5 Try.underlying9]
  rcases A with _ | x
  · have hn : n = 0 := by
      rcases Nat.eq_zero_or_pos n with h | h
      · exact h
      · obtain ⟨x, h2, _⟩ := hr.2 h; simp at h2
    have hz : zs = [] := List.eq_nil_of_length_eq_zero (by have := hr.1; omega)
    subst hz
    simp [Conv.bytesToString, strOf]
  · refine run_bytesToString _ _ _ _ zs ?_
    have h := run_loadCells_list (P := Try.prog) w x (zs.map (Value.int .u8)) (fun j v hj => by
      rw [List.getElem?_map] at hj
      obtain ⟨y, hy, rfl⟩ := Option.map_eq_some_iff.1 hj
      obtain ⟨hlt, rfl⟩ := List.getElem?_eq_some_iff.1 hy
      obtain ⟨x', hx, _, hc⟩ := hr.2 (by have := hr.1; omega)
      cases hx
      rw [hc j (by have := hr.1; omega), nth_eq zs j hlt])
    rw [List.length_map, hr.1] at h
    exact h
theorem strOf_size : ∀ (l : List Int) (r : ByteArray), (l.foldl (fun r n => r.push (UInt8.ofNat n.toNat)) r).data.toList = r.data.toList ++ l.map fun n => UInt8.ofNat n.toNat
  | [], r => by simp
  | x :: l, r => by
    rw [List.foldl_cons, strOf_size l]
    simp
theorem strOf_inj {x y : List Int} (hx : ∀ z ∈ x, 0 ≤ z ∧ z ≤ 255) (hy : ∀ z ∈ y, 0 ≤ z ∧ z ≤ 255) (h : strOf x = strOf y) : x = y := by
  have e := congrArg (fun b : ByteArray => b.data.toList) h
  simp only [strOf, strOf_size] at e
  have e : x.map (fun n => UInt8.ofNat n.toNat) = y.map (fun n => UInt8.ofNat n.toNat) := by simpa using e
  have hl : x.length = y.length := by simpa using congrArg List.length e
  refine List.ext_getElem hl fun i h1 h2 => ?_
  have hi := congrArg (fun l => l[i]?) e
  simp only [List.getElem?_map, List.getElem?_eq_getElem h1, List.getElem?_eq_getElem h2, Option.map_some, Option.some.injEq] at hi
  have b1 := hx _ (List.getElem_mem h1)
  have b2 := hy _ (List.getElem_mem h2)
  have := congrArg UInt8.toNat hi
  simp only [UInt8.toNat_ofNat'] at this
  omega
end Go.Proofs.Ytekipbfafofkdaa
