/-
  Plain words that the walks of this seat use: numbers of 32 bits; slices that read as lists of integers; a table of the library's. Nothing of the program.
-/
import Derived.Test.YtlodoilihminaaaGreatDoorRows
import Derived.WalkKit
import Derived.ProofKit
import Derived.OpenShut
import Derived.ShutString
import Derived.ChangeOld
import Derived.Below
import Derived.WalkSmall
import Derived.Lib.Hide
import Derived.Lib.LaidTab
import Derived.Lib.ItoaNum
import Derived.Sort.Grow
namespace Go.Proofs.YtlodoilihminaaaGreatDoor
open Go.ChangeShapes Go.WideShapes Go.ChangeAt Go.RowKit
set_option linter.unusedVariables false

def bit (c : Bool) : Int := if c then 1 else 0
def w32 (n : Int) : Int := n % 4294967296
def out32 (n : Int) : Bool := decide (n < -2147483648 ∨ 2147483647 < n)
theorem w32_bd (n : Int) : 0 ≤ w32 n ∧ w32 n ≤ 4294967295 := by unfold w32; omega
theorem w32_in (n : Int) (h0 : 0 ≤ n) (h1 : n ≤ 4294967295) : w32 n = n := by unfold w32; omega
theorem bit_bd (c : Bool) : 0 ≤ bit c ∧ bit c ≤ 1 := by cases c <;> simp [bit]
theorem wrap32_bd (a : Int) : -2147483648 ≤ wrap32 a ∧ wrap32 a ≤ 2147483647 := by unfold wrap32; omega
theorem wrap32_lo (a : Int) (h0 : 0 ≤ a) (h1 : a < 2147483648) : wrap32 a = a := by unfold wrap32; omega
theorem wrap32_hi (a : Int) (h0 : 2147483648 ≤ a) (h1 : a ≤ 4294967295) : wrap32 a = a - 4294967296 := by unfold wrap32; omega
theorem w32_wrap32 (a : Int) : w32 (wrap32 a) = w32 a := by unfold w32 wrap32; omega

theorem ret_int {k : IntKind} {a b : Int} (h : a = b) : Ending.returned (.int k a) = .returned (.int k b) := by rw [h]
theorem ret_bool {a b : Bool} (h : a = b) : Ending.returned (.bool a) = .returned (.bool b) := by rw [h]
theorem ret_int2 {k l : IntKind} {a b c d : Int} (h : a = b) (g : c = d) : Ending.returned (.tuple #[.int k a, .int l c]) = .returned (.tuple #[.int k b, .int l d]) := by rw [h, g]
theorem ret_ibb {k : IntKind} {a b : Int} {c d e f : Bool} (h : a = b) (g : c = d) (i : e = f) : Ending.returned (.tuple #[.int k a, .bool c, .bool e]) = .returned (.tuple #[.int k b, .bool d, .bool f]) := by rw [h, g, i]
theorem ret_iii {k l m : IntKind} {a b c d e f : Int} (h : a = b) (g : c = d) (i : e = f) : Ending.returned (.tuple #[.int k a, .int l c, .int m e]) = .returned (.tuple #[.int k b, .int l d, .int m f]) := by rw [h, g, i]
theorem ret_str {a b : ByteArray} (h : a = b) : Ending.returned (.string a) = .returned (.string b) := by rw [h]

/-- what an integer's wf says, by its kind -/
theorem bd_u8 {a : Int} (h : (Lit.int .u8 a).wf = true) : 0 ≤ a ∧ a ≤ 255 := by simpa [Lit.wf, IntKind.min, IntKind.max, IntKind.signed, IntKind.bits] using h
theorem bd_u32 {a : Int} (h : (Lit.int .u32 a).wf = true) : 0 ≤ a ∧ a ≤ 4294967295 := by simpa [Lit.wf, IntKind.min, IntKind.max, IntKind.signed, IntKind.bits] using h
theorem bd_u64 {a : Int} (h : (Lit.int .u64 a).wf = true) : 0 ≤ a ∧ a ≤ 18446744073709551615 := by simpa [Lit.wf, IntKind.min, IntKind.max, IntKind.signed, IntKind.bits] using h
theorem bd_i64 {a : Int} (h : (Lit.int .i64 a).wf = true) : -9223372036854775808 ≤ a ∧ a ≤ 9223372036854775807 := by simpa [Lit.wf, IntKind.min, IntKind.max, IntKind.signed, IntKind.bits] using h
theorem bd_i32 {a : Int} (h : (Lit.int .i32 a).wf = true) : -2147483648 ≤ a ∧ a ≤ 2147483647 := by simpa [Lit.wf, IntKind.min, IntKind.max, IntKind.signed, IntKind.bits] using h

/-! ### slices of integers -/
/-- a list's number at a place, 0 behind its end (closed to simp) -/
def nth (l : List Int) (i : Nat) : Int := l.getD i 0
theorem nth_eq (l : List Int) (i : Nat) (h : i < l.length) : nth l i = l[i] := by unfold nth; simp [h]
theorem nth_ge (l : List Int) (i : Nat) (h : l.length ≤ i) : nth l i = 0 := by unfold nth; simp [List.getElem?_eq_none h]
theorem nth_take (l : List Int) (n i : Nat) (h : i < n) : nth (l.take n) i = nth l i := by unfold nth; simp [h]
theorem nth_drop (l : List Int) (n i : Nat) : nth (l.drop n) i = nth l (n + i) := by unfold nth; simp [List.getElem?_drop]
theorem nth_mem (P : Int → Prop) (l : List Int) (h : ∀ z ∈ l, P z) (h0 : P 0) (i : Nat) : P (nth l i) := by
  by_cases hi : i < l.length
  · rw [nth_eq l i hi]; exact h _ (List.getElem_mem hi)
  · rw [nth_ge l i (by omega)]; exact h0
theorem take_nth (l : List Int) (j : Nat) (h : j < l.length) : l.take (j + 1) = l.take j ++ [nth l j] := by
  rw [List.take_succ_eq_append_getElem h, nth_eq l j h]
theorem block_add (a : Addr) (n : Nat) : (a.add n).block = a.block := by unfold Addr.add; split <;> rfl
theorem add_add (a : Addr) (i j : Nat) : (a.add i).add j = a.add (i + j) := by
  unfold Addr.add
  by_cases hi : i = 0 <;> by_cases hj : j = 0 <;> simp [hi, hj, Nat.add_assoc]

/-- the slice .slice A n _ of integers of kind k, below block B, reads as zs -/
def Rd (w : World) (B : Nat) (k : IntKind) (A : Option Addr) (n : Nat) (zs : List Int) : Prop :=
  zs.length = n ∧ (0 < n → ∃ x, A = some x ∧ x.block < B ∧ ∀ i, i < n → w.cell? (x.add i) = some (.int k (nth zs i)))
section
variable {w w' : World} {B B' n : Nat} {k : IntKind} {A : Option Addr} {zs : List Int}
theorem Rd.keep (h : Rd w B k A n zs) (hk : ∀ p : Addr, p.block < B → w'.cell? p = w.cell? p) : Rd w' B k A n zs :=
  ⟨h.1, fun hn => by
    obtain ⟨x, e, hb, hc⟩ := h.2 hn
    exact ⟨x, e, hb, fun i hi => (hk _ (by rw [block_add]; exact hb)).trans (hc i hi)⟩⟩
theorem Rd.below (h : Rd w B k A n zs) (hb : Below B w w') : Rd w' B k A n zs := h.keep fun _ hp => hb.cell hp
theorem Rd.more (h : Rd w B k A n zs) (hB : B ≤ B') : Rd w B' k A n zs :=
  ⟨h.1, fun hn => by obtain ⟨x, e, hb, hc⟩ := h.2 hn; exact ⟨x, e, by omega, hc⟩⟩
theorem Rd.nil : Rd w B k A 0 [] := ⟨rfl, fun h => absurd h (by omega)⟩
theorem Rd.cut (h : Rd w B k A n zs) {j c : Nat} (hj : j ≤ n) (hc : n ≤ c) : Rd w B k (if c = j then A else A.map (·.add j)) (n - j) (zs.drop j) := by
  refine ⟨by rw [List.length_drop, h.1], fun hn => ?_⟩
  obtain ⟨x, rfl, hb, hcell⟩ := h.2 (by omega)
  rw [if_neg (by omega)]
  refine ⟨x.add j, rfl, by rw [block_add]; exact hb, fun i hi => ?_⟩
  rw [add_add, nth_drop]
  exact hcell _ (by omega)
theorem Rd.front (h : Rd w B k A n zs) {j : Nat} (hj : j ≤ n) : Rd w B k A j (zs.take j) := by
  refine ⟨by rw [List.length_take, h.1]; omega, fun hn => ?_⟩
  obtain ⟨x, rfl, hb, hcell⟩ := h.2 (by omega)
  exact ⟨x, rfl, hb, fun i hi => by rw [nth_take _ _ _ hi]; exact hcell i (by omega)⟩
end

/-- what came in: nil, or a row of cap cells -/
def IsRow (k : IntKind) (w : World) (a : Option Addr) (len cap : Nat) (zs : List Int) : Prop :=
  zs.length = len ∧ len ≤ cap ∧ cap ≤ maxLen ∧ (∀ z ∈ zs, (Lit.int k z).wf = true) ∧ Rd w w.heap.size k a len zs
theorem isRow_of {P : Program} {H : Type} {enc : TypeId × Value → H} {W : World} {base : Nat} {held : Bool} {t e : TypeId} {k : IntKind} {a : Option Addr} {len cap : Nat} {d : DataW H} {p : List MemPlace}
    (ht : P.underlying t = some (.slice e)) (he : P.underlying e = some (.int k)) (hc : P.cellsOf e = 1)
    (h : DataW.Trod enc P W base (fun _ => true) held t (.slice a len cap) d p) : ∃ zs, IsRow k W a len cap zs := by
  obtain ⟨fuel, hf⟩ := h
  rcases open_ints ht he hc hf with ⟨hcs, _⟩ | ⟨x, l, c, zs, hcs, _, hl, hm, hz, _, hcell, hwz⟩
  · simp [Value.cells] at hcs
    obtain ⟨rfl, rfl, rfl⟩ := hcs
    exact ⟨[], rfl, Nat.le_refl _, Nat.zero_le _, by simp, Rd.nil⟩
  · simp [Value.cells] at hcs
    obtain ⟨rfl, rfl, rfl⟩ := hcs
    have hz' : zs.length = cap := by simpa using hz
    refine ⟨zs.take len, by rw [List.length_take]; omega, hl, hm, fun z hz1 => hwz z (List.mem_of_mem_take hz1), by rw [List.length_take]; omega, fun hn => ⟨_, rfl, ?_, fun i hi => ?_⟩⟩
    · have := World.block_lt_of_cell? _ _ (hcell 0 (by omega))
      rw [block_add] at this
      exact this
    · rw [nth_take _ _ _ hi]; exact hcell i (by omega)
theorem IsRow.bytes {w : World} {a : Option Addr} {len cap : Nat} {zs : List Int} (h : IsRow .u8 w a len cap zs) (i : Nat) : 0 ≤ nth zs i ∧ nth zs i ≤ 255 :=
  nth_mem (fun z => 0 ≤ z ∧ z ≤ 255) zs (fun z hz => bd_u8 (h.2.2.2.1 z hz)) (by omega) i
/-! ### the library's table of powers of ten -/
theorem grow_below (w : World) (n : Nat) (os : Array Obj) : Below w.heap.size w (Sort.grow (w.drewN n) os) :=
  ⟨rfl, rfl, rfl, by first | (simp [Sort.grow]; done) | (simp [Sort.grow]; omega), fun i hi => by
    show ((w.drewN n).heap ++ os)[i]? = _
    rw [Array.getElem?_append_left (by show i < w.heap.size; omega)]
    rfl⟩
def Tab (w : World) : Prop := Lib.TabIs Tryz.prog w "internal/strconv.uint64pow10" .u64 Lib.pow10Tab
theorem gPow : Tryz.prog.globalNamed "internal/strconv.uint64pow10" = some 5 := by kernel_rfl
theorem Tab.below {w w' : World} (h : Tab w) (hb : Below w.heap.size w w') : Tab w' := by
  have hc := World.block_lt_of_cell? _ _ (h.cell gPow 0 (by rw [Lib.pow10Tab_length]; omega))
  exact var?_below hb gPow hc h
end Go.Proofs.YtlodoilihminaaaGreatDoor
