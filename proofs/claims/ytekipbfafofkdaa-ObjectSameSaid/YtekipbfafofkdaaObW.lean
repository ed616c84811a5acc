/-
  selfsameref07.Word: a number's four bytes.
-/
import Derived.Test.YtekipbfafofkdaaObS
import Derived.Test.YtekipbfafofkdaaOwnA
import Derived.Lib.AppendStr
namespace Go.Proofs.Ytekipbfafofkdaa
open Go.ChangeShapes Go.WideShapes Go.ChangeAt Go.RowKit
set_option linter.unusedVariables false
theorem rword_any (n : Int) (h0 : 0 ≤ n) (h1 : n < 4294967296) (w : World) :
    Calls Try.prog 24 #[.int .u32 n] w fun e w' => e = .returned (.slice (some ⟨w.heap.size, 0, none⟩) 4 4) ∧ w' = w.alloc (.cells #[.int .u8 (n % 256), .int .u8 (n / 256 % 256), .int .u8 (n / 65536 % 256), .int .u8 (n / 16777216 % 256)] 5) := by
  have e : n / 16777216 % 256 = n / 16777216 := by omega
  rw [e]
  go_enter Try.func24, Try.ntmps24
  go_wp2_with fail
  go_ret
  exact ⟨rfl, rfl⟩
/-- the same, as a row -/
theorem rword_rd (n : Int) (h0 : 0 ≤ n) (h1 : n < 4294967296) (w : World) :
    Calls Try.prog 24 #[.int .u32 n] w fun e w' => ∃ g, e = .returned (.slice (some ⟨g, 0, none⟩) 4 4) ∧ Rd w' w'.heap.size .u8 (some ⟨g, 0, none⟩) 4 (w4 n) ∧ Below w.heap.size w w' := by
  refine (rword_any n h0 h1 w).mono ?_
  rintro e w' ⟨rfl, rfl⟩
  refine ⟨_, rfl, ⟨rfl, fun _ => ⟨_, rfl, by simp, fun i hi => ?_⟩⟩, below1 _ _⟩
  have ha : (⟨w.heap.size, 0, none⟩ : Addr).add i = ⟨w.heap.size, i, none⟩ := by unfold Addr.add; split <;> simp_all
  rw [ha, World.cell?_alloc_new w _ _ _]
  match i, hi with
  | 0, _ => rfl
  | 1, _ => rfl
  | 2, _ => rfl
  | 3, _ => rfl
theorem infoB : (Try.prog.info? 5).map (fun i => (i.zero, i.size, i.bytes)) = some (some (.int .u8 0), 1, 1) := by kernel_rfl
theorem bytes_cells (s : ByteArray) : Go.Lib.strCells s = valsOf .u8 (bts s) := by
  unfold valsOf bts Go.Lib.strCells
  rw [List.map_map]
  rfl
/-- a name's bytes: a row of its own -/
theorem rnm_any (s : ByteArray) (hs : s.size ≤ 1000000) (w : World) :
    Calls Try.prog 23 #[.string s] w fun e w' => ∃ A c, e = .returned (.slice A (s.size + 1) c) ∧ w'.ownsRow w.heap.size 5 1 (.slice A (s.size + 1) c) (s.size + 1) (valsOf .u8 (nm s)) ∧ Below w.heap.size w w' := by
  obtain ⟨i0, hi0, hz0, hz1, hz2⟩ : ∃ i, Try.prog.info? 5 = some i ∧ i.zero = some (.int .u8 0) ∧ i.size = 1 ∧ i.bytes = 1 := by
    obtain ⟨i, e1, e2⟩ := Option.map_eq_some_iff.1 infoB
    exact ⟨i, e1, (Prod.mk.inj e2).1, (Prod.mk.inj (Prod.mk.inj e2).2).1, (Prod.mk.inj (Prod.mk.inj e2).2).2⟩
  have hown : (w.alloc (.cells #[.int .u8 ((s.size : Int) % 256)] 5)).ownsRow w.heap.size 5 1 (.slice (some ⟨w.heap.size, 0, none⟩) 1 1) 1 [.int .u8 ((s.size : Int) % 256)] :=
    ⟨rfl, .inr ⟨w.heap.size, 1, #[.int .u8 ((s.size : Int) % 256)], rfl, Nat.le_refl _, heap_alloc_new _ _, Nat.le_refl _, by unfold maxLen; decide, rfl, rfl⟩⟩
  have HOWN := Lib.hid hown
  clear hown
  go_enter Try.func23, Try.ntmps23
  go_wp2_with (at_builtin; refine Go.Lib.wpList_append_own_string _ (by rfl) _ _ 24 9 (by rfl) w.heap.size 5 i0 Try.underlying24 Try.underlying9 hi0 hz0 hz1 hz2 (.slice (some ⟨w.heap.size, 0, none⟩) 1 1) 1 [.int .u8 ((s.size : Int) % 256)] (by rfl) HOWN.out s (by rfl) (by unfold maxLen; omega) (by omega) (by simp) ?_; intro v' w' ho hg hne)
  go_ret
  have hn : [Value.int .u8 ((s.size : Int) % 256)] ++ Go.Lib.strCells s = valsOf .u8 (nm s) := by rw [bytes_cells]; rfl
  rw [hn, Nat.add_comm 1 s.size] at ho
  obtain ⟨A, c, rfl, -, -⟩ := rd_own ho
  exact ⟨A, c, rfl, ho, (below1 w _).grown hg (by simp) (fun k hk => by simp [Value.ownBlock] at hk; omega)⟩
end Go.Proofs.Ytekipbfafofkdaa
