/-
  Rows of bytes as texts.
-/
import Derived.Test.YtlodoilihminaaaGreatDoorOwnA
import Derived.Laws.BytesString
import Derived.Laws.Cells
namespace Go.Proofs.YtlodoilihminaaaGreatDoor
open Go.ChangeShapes Go.WideShapes Go.ChangeAt Go.RowKit
set_option linter.unusedVariables false
set_option linter.unusedSimpArgs false
def strOf (zs : List Int) : ByteArray := zs.foldl (fun r n => r.push (UInt8.ofNat n.toNat)) ByteArray.empty
theorem conv_rd {w : World} {B : Nat} {A : Option Addr} {n : Nat} {zs : List Int} (hr : Rd w B .u8 A n zs) (c : Nat) :
    (convert 24 9 (.slice A n c)).run Tryz.prog w = .ok (.string (strOf zs)) w := by
  rw [run_convert_bytes_string _ _ _ 5 _ _ _ Tryz.underlying24 Tryz.underlying5 Tryz.underlying9]
  rcases A with _ | x
  · have hn : n = 0 := by
      rcases Nat.eq_zero_or_pos n with h | h
      · exact h
      · obtain ⟨x, h2, _⟩ := hr.2 h; simp at h2
    have hz : zs = [] := List.eq_nil_of_length_eq_zero (by have := hr.1; omega)
    subst hz
    simp [Conv.bytesToString, strOf]
  · refine run_bytesToString _ _ _ _ zs ?_
    have h := run_loadCells_list (P := Tryz.prog) w x (zs.map (Value.int .u8)) (fun j v hj => by
      rw [List.getElem?_map] at hj
      obtain ⟨y, hy, rfl⟩ := Option.map_eq_some_iff.1 hj
      obtain ⟨hlt, rfl⟩ := List.getElem?_eq_some_iff.1 hy
      obtain ⟨x', hx, _, hc⟩ := hr.2 (by have := hr.1; omega)
      cases hx
      rw [hc j (by have := hr.1; omega), nth_eq zs j hlt])
    rw [List.length_map, hr.1] at h
    exact h
theorem strOf_push (zs : List Int) : ∀ (r : ByteArray), zs.foldl (fun r n => r.push (UInt8.ofNat n.toNat)) r = ⟨(r.data.toList ++ zs.map fun n => UInt8.ofNat n.toNat).toArray⟩ := by
  induction zs with
  | nil => intro r; simp
  | cons z zs ih =>
    intro r
    rw [List.foldl_cons, ih]
    simp
theorem strOf_list (zs : List Int) : strOf zs = ⟨(zs.map fun n => UInt8.ofNat n.toNat).toArray⟩ := by
  unfold strOf
  rw [strOf_push]
  simp
end Go.Proofs.YtlodoilihminaaaGreatDoor
