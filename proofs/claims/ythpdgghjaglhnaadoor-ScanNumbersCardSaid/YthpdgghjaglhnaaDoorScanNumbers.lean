/-
  ScanNumbers: numbers and characters, as they are written: in decimal, and in hexadecimal with leading noughts. No condition but the laid tables'.
-/
import Derived.Test.YthpdgghjaglhnaaDoorSnT
import Derived.Test.YthpdgghjaglhnaaDoorRows
import Derived.Test.YthpdgghjaglhnaaDoorCards
import Derived.Test.YthpdgghjaglhnaaDoorTie
import Derived.Laws.MakeOwn
import Derived.Deep.DeepHandedRow
import Derived.Stop.LaidErr
import Derived.WalkKit
import Derived.ProofKit
import Derived.OpenShut
import Derived.LaidMore
import Derived.Lay
import Derived.SevenTiedAt
import Derived.Stop.Joined
namespace Go.Proofs.YthpdgghjaglhnaaDoor.scanNumbers
open Go.ChangeShapes Go.WideShapes Go.ChangeAt Go.RowKit
set_option linter.unusedVariables false
set_option linter.unusedSimpArgs false
structure Tab (w : World) : Prop where
  space : Lib.TabIs Tryd.prog w "strings.asciiSpace" .u8 spaceTab
  pow : Lib.TabIs Tryd.prog w "internal/strconv.uint64pow10" .u64 Lib.pow10Tab
theorem own_kept {w w' : World} {row : Option Nat} {b sz n : Nat} {e : TypeId} {v : Value} {xs : List Value} (h : w.ownsRow b e sz v n xs) (hg : w.grownBy w' row) (hne : ∀ k, v.ownBlock = some k → row ≠ some k) : w'.ownsRow b e sz v n xs := by
  refine ⟨h.1, ?_⟩
  rcases h.2 with hn | ⟨g, cap, cur, rfl, hb, hgg, rest⟩
  · exact .inl hn
  · have hlt : g < w.heap.size := (Array.getElem?_eq_some_iff.1 hgg).1
    exact .inr ⟨g, cap, cur, rfl, hb, by rw [hg.block g hlt (fun e => hne g rfl e.symm)]; exact hgg, rest⟩
theorem own_below {w w' : World} {b sz n : Nat} {e : TypeId} {v : Value} {xs : List Value} (h : w.ownsRow b e sz v n xs) (hb : Below w.heap.size w w') : w'.ownsRow b e sz v n xs :=
  own_kept (row := none) h ⟨hb.os, hb.tape, hb.output, hb.size, fun k hk _ => hb.block k hk⟩ (fun k _ e => by cases e)
/-- noughts lie there -/
structure Zs (w V : World) (p N k : Nat) : Prop where
  b : Below w.heap.size w V
  lo : w.heap.size ≤ p
  hi : p < V.heap.size
  c : ∀ j, j < N → V.cell? ⟨p, j, none⟩ = some (.int .u8 (if j < k then 48 else 0))
  f : ∀ j, j < N → V.frozen? ⟨p, j, none⟩ = false
section
variable {w V V' : World} {p N k : Nat}
theorem Zs.kept {row : Option Nat} (h : Zs w V p N k) (hg : V.grownBy V' row) (hne : row ≠ some p) (hr : ∀ z, row = some z → w.heap.size ≤ z) : Zs w V' p N k := by
  have e := hg.block p h.hi (fun e => hne e.symm)
  exact ⟨h.b.grown hg h.b.size hr, h.lo, Nat.lt_of_lt_of_le h.hi hg.size, fun j hj => by rw [World.cell?_of_block e]; exact h.c j hj, fun j hj => by rw [World.frozen?_of_block e]; exact h.f j hj⟩
theorem Zs.next (h : Zs w V p N k) (hb : Below V.heap.size V V') : Zs w V' p N k :=
  h.kept (row := none) ⟨hb.os, hb.tape, hb.output, hb.size, fun k hk _ => hb.block k hk⟩ (by simp) (fun z e => by cases e)
theorem Zs.rd (h : Zs w V p N N) : Rd V V.heap.size .u8 (some ⟨p, 0, none⟩) N (List.replicate N 48) := by
  refine ⟨by simp, fun hn => ⟨_, rfl, h.hi, fun i hi => ?_⟩⟩
  rw [Ev.add_at, Nat.zero_add, h.c i hi, if_pos hi, nth_eq _ _ (by simpa using hi)]
  simp
theorem Zs.set (h : Zs w V p N k) (hk : k < N) : Zs w (V.setCell ⟨p, k, none⟩ (.int .u8 48)) p N (k + 1) := by
  refine ⟨h.b.setCell h.lo _, h.lo, by rw [snsize_setCell]; exact h.hi, fun j hj => ?_, fun j hj => by rw [World.frozen?_setCell]; exact h.f j hj⟩
  by_cases e : j = k
  · subst e
    rw [World.cell?_setCell_same _ _ _ (h.c j hj), if_pos (by omega)]
  · rw [World.cell?_setCell_other _ _ _ _ (fun e2 => e (by injection e2 with _ e3 _; exact e3.symm)), h.c j hj]
    by_cases e2 : j < k
    · rw [if_pos e2, if_pos (by omega)]
    · rw [if_neg e2, if_neg (by omega)]
end
theorem made_run (n : Nat) (hn : n ≤ 16777216) (W : World) : (Instr.makeSlice 22 (.int .i64 (n : Int)) (.int .i64 (n : Int))).run Tryd.prog W = .ok (.slice (some ⟨W.heap.size, 0, none⟩) n n) (W.alloc (.cells (madeCells #[.int .u8 0] n) 5)) := by
  obtain ⟨i, e1, e2⟩ := Option.map_eq_some_iff.1 infoB0
  have h0 := (Prod.mk.inj e2).1
  have h1 := (Prod.mk.inj (Prod.mk.inj e2).2).1
  have h2 := (Prod.mk.inj (Prod.mk.inj e2).2).2
  have := run_make (P := Tryd.prog) W 22 5 i (.int .u8 0) Tryd.underlying22 e1 h0 .i64 .i64 (n : Int) (n : Int) (by omega) (Int.le_refl _) (by rw [h2]; omega) (by omega)
  rw [h1, Int.toNat_natCast, Nat.mul_one] at this
  exact this
theorem made_zs (w : World) (n : Nat) : Zs w (w.alloc (.cells (madeCells #[.int .u8 0] n) 5)) w.heap.size n 0 := by
  have hn := heap_alloc_new w (.cells (madeCells #[.int .u8 0] n) 5)
  refine ⟨(Below.refl _ _).alloc (Nat.le_refl _) _, Nat.le_refl _, by simp, fun j hj => ?_, fun j hj => World.frozen?_alloc_new w _ _ _⟩
  have h1 : j % 1 = 0 := by omega
  have := World.news_of_block hn j (.int .u8 0) (by rw [Array.getElem?_toList]; simp [madeCells, hj, h1])
  rw [Ev.add_at, Nat.zero_add] at this
  rw [this, if_neg (by omega)]
/-- a scanner of such a source: its symbol -/
theorem sym_of (w : World) (B : Nat) (A : Option Addr) (n c : Nat) (zs : List Int) (hr : Rd w w.heap.size .u8 A n zs) (hn : n ≤ 65535) (hb : ∀ x ∈ zs, 0 ≤ x ∧ x < 256) (hT : ∀ V, Below w.heap.size w V → SpTab V ∧ Proofs.YthpdgghjaglhnaaDoor.Tab V) :
    Calls Tryd.prog 9 #[.slice A n c] w fun e w' => ∃ p, e = .returned (.pointer (some ⟨p, 0, none⟩)) ∧ Below w.heap.size w w' ∧
      Calls Tryd.prog 12 #[.pointer (some ⟨p, 0, none⟩)] w' fun e w2 => e = .returned (.agg #[.int .i64 (newF zs).sym, .int .i64 (newF zs).pos, .int .i32 (newF zs).val, .int .i64 (newF zs).id, .string (newF zs).txt]) ∧ Below w'.heap.size w' w2 :=
  (new_any w A n c zs hr (by unfold maxLen; omega) hb hT).mono fun e w' ⟨q, he, hs, hb⟩ => ⟨q.p, he, hb, (symbol_any hs).mono fun e w2 h => h⟩
/-- what a scanner of such a source has for its symbol -/
def Nws (w : World) (n : Nat) (zs : List Int) (sy va : Int) : Prop := ∀ (V : World) (A : Option Addr) (c : Nat), Below w.heap.size w V → Rd V V.heap.size .u8 A n zs → Calls Tryd.prog 9 #[.slice A n c] V fun e w' => ∃ (p : Nat) (po id : Int) (tx : ByteArray), e = .returned (.pointer (some ⟨p, 0, none⟩)) ∧ Below V.heap.size V w' ∧
  Calls Tryd.prog 12 #[.pointer (some ⟨p, 0, none⟩)] w' fun e w2 => e = .returned (.agg #[.int .i64 sy, .int .i64 po, .int .i32 va, .int .i64 id, .string tx]) ∧ Below w'.heap.size w' w2
theorem nws (w : World) {n : Nat} (zs : List Int) (hn : zs.length = n) (hl : n ≤ 65535) (hb : ∀ x ∈ zs, 0 ≤ x ∧ x < 256) (hT : ∀ V, Below w.heap.size w V → SpTab V ∧ Proofs.YthpdgghjaglhnaaDoor.Tab V) : Nws w n zs (newF zs).sym (newF zs).val := fun V A c hV hr =>
  (sym_of V 0 A n c zs hr hl hb (fun U hU => hT U (hV.trans (hU.mono hV.size)))).mono fun e w' ⟨p, he, h1, h2⟩ => ⟨p, _, _, _, he, h1, h2⟩
theorem one_rd (w : World) (x : Int) : Rd (w.alloc (.cells #[.int .u8 x] 5)) (w.alloc (.cells #[.int .u8 x] 5)).heap.size .u8 (some ⟨w.heap.size, 0, none⟩) 1 [x] := by
  refine ⟨rfl, fun _ => ⟨_, rfl, by simp, fun i hi => ?_⟩⟩
  obtain rfl : i = 0 := by omega
  exact World.news_of_block (heap_alloc_new w (.cells #[.int .u8 x] 5)) 0 _ rfl
def hexL (k u : Nat) : List Int := List.replicate (k + 1) 48 ++ dgs 16 u
def decL (k u : Nat) : List Int := List.replicate k 48 ++ dgs 10 u
theorem hexL_nu (k u : Nat) : NuL (hexL k u) := by
  intro c hc
  rcases List.mem_append.1 hc with h | h
  · obtain ⟨_, rfl⟩ := List.mem_replicate.1 h; decide
  · exact dgs16_nu u c h
theorem decL_dig (k u : Nat) : ∀ c ∈ decL k u, 48 ≤ c ∧ c ≤ 57 := by
  intro c hc
  rcases List.mem_append.1 hc with h | h
  · obtain ⟨_, rfl⟩ := List.mem_replicate.1 h; decide
  · exact dgs10_dig u c h
theorem decL_nu (k u : Nat) : NuL (decL k u) := fun c hc => by
  have := decL_dig k u c hc
  unfold nuB digB
  simp only [Bool.or_eq_true, Bool.and_eq_true, decide_eq_true_eq]
  exact .inl this
theorem hexL_len (k u : Nat) (hk : k ≤ 20) (hu : u < 4294967296) : (hexL k u).length ≤ 30 := by
  unfold hexL
  rw [List.length_append, List.length_replicate]
  have := (dgs_len u hu).2
  omega
theorem decL_len (k u : Nat) (hk : k ≤ 20) (hu : u < 4294967296) : (decL k u).length ≤ 30 := by
  unfold decL
  rw [List.length_append, List.length_replicate]
  have := (dgs_len u hu).1
  omega
section
variable {a : Int} {k u : Nat} (hk : k ≤ 20) (hu : (u : Int) = a % 4294967296) (ha : -2147483648 ≤ a ∧ a ≤ 2147483647)
theorem pure_h : k ≤ 20 → (u : Int) = a % 4294967296 → (-2147483648 ≤ a ∧ a ≤ 2147483647) → (newF (hexL k u ++ [72])).sym = 26 ∧ (newF (hexL k u ++ [72])).val = a := by
  intro hk hu ha
  have hu2 : u < 4294967296 := by omega
  rw [new_num (hexL_nu k u) (by have := hexL_len k u hk hu2; simp; omega) (by unfold hexL; rw [List.replicate_succ]; exact (by decide : digB 48 = true)) (by unfold hexL; simp) (by decide)]
  have e1 : hd [(72 : Int)] = 72 := rfl
  rw [e1, if_neg (show ¬ (72 : Int) = 88 by decide), if_pos (show (72 : Int) = 72 ∨ (72 : Int) = 88 from .inl rfl), if_pos (show (72 : Int) = 72 from rfl)]
  have e2 : hexF (hexL k u) = some (u : Int) := hexF_dgs (k + 1) u hu2
  rw [e2]
  refine ⟨rfl, ?_⟩
  show wrap32 u = a
  unfold wrap32; omega
theorem pure_x : k ≤ 20 → (u : Int) = a % 4294967296 → (-2147483648 ≤ a ∧ a ≤ 2147483647) → (u ≤ 255 → (newF (hexL k u ++ [88])).sym = 27 ∧ (newF (hexL k u ++ [88])).val = a) ∧ (255 < u → (newF (hexL k u ++ [88])).sym = 0) := by
  intro hk hu ha
  have hu2 : u < 4294967296 := by omega
  rw [new_num (hexL_nu k u) (by have := hexL_len k u hk hu2; simp; omega) (by unfold hexL; rw [List.replicate_succ]; exact (by decide : digB 48 = true)) (by unfold hexL; simp) (by decide)]
  have e1 : hd [(88 : Int)] = 88 := rfl
  rw [e1, if_pos (show (88 : Int) = 88 from rfl), if_pos (show (88 : Int) = 72 ∨ (88 : Int) = 88 from .inr rfl), if_neg (show ¬ (88 : Int) = 72 by decide), if_pos (show (88 : Int) = 88 from rfl)]
  have e2 : hexF (hexL k u) = some (u : Int) := hexF_dgs (k + 1) u hu2
  rw [e2]
  refine ⟨fun h => ?_, fun h => ?_⟩
  · show (numV _ (if (u : Int) ≤ 255 then some (u : Int) else none)).sym = 27 ∧ (numV _ (if (u : Int) ≤ 255 then some (u : Int) else none)).val = a
    rw [if_pos (by omega)]
    refine ⟨rfl, ?_⟩
    show wrap32 u = a
    unfold wrap32; omega
  · show (numV _ (if (u : Int) ≤ 255 then some (u : Int) else none)).sym = 0
    rw [if_neg (by omega)]
    rfl
theorem pure_d : k ≤ 20 → (u : Int) = a % 4294967296 → (-2147483648 ≤ a ∧ a ≤ 2147483647) → (u ≤ 2147483647 → (newF (decL k u)).sym = 26 ∧ (newF (decL k u)).val = a) ∧ (2147483647 < u → (newF (decL k u)).sym = 0) := by
  intro hk hu ha
  have hu2 : u < 4294967296 := by omega
  have hne : decL k u ≠ [] := by unfold decL; simp [dgs_ne]
  have hdg : digB (hd (decL k u ++ [])) = true := by
    rw [List.append_nil]
    cases hl : decL k u with
    | nil => exact absurd hl hne
    | cons c r =>
      have := decL_dig k u c (by rw [hl]; exact List.mem_cons_self)
      show digB c = true
      unfold digB
      simpa using this
  have h := new_num (r := []) (decL_nu k u) (by have := decL_len k u hk hu2; simp; omega) hdg hne (by decide)
  have e1 : hd ([] : List Int) = 0 := rfl
  rw [List.append_nil, e1, if_neg (show ¬ (0 : Int) = 88 by decide), if_neg (show ¬ ((0 : Int) = 72 ∨ (0 : Int) = 88) by decide), if_neg (show ¬ (0 : Int) = 72 by decide), if_neg (show ¬ (0 : Int) = 88 by decide), show decF (decL k u) = _ from decF_dgs k u] at h
  rw [h]
  refine ⟨fun h => ?_, fun h => ?_⟩
  · rw [if_pos h]
    refine ⟨rfl, ?_⟩
    show wrap32 u = a
    unfold wrap32; omega
  · rw [if_neg (by omega)]
    rfl
end
/-- a variable of the law's own -/
structure Vr (V : World) (b : Nat) : Prop where
  lt : b < V.heap.size
  c : ∀ j, j < 5 → ∃ v, V.cell? ⟨b, j, none⟩ = some v
  f : ∀ j, j < 5 → V.frozen? ⟨b, j, none⟩ = false
theorem Vr.kept {V V' : World} {row : Option Nat} {b : Nat} (h : Vr V b) (hg : V.grownBy V' row) (hne : row ≠ some b) : Vr V' b := by
  have e := hg.block b h.lt (fun e => hne e.symm)
  exact ⟨Nat.lt_of_lt_of_le h.lt hg.size, fun j hj => by rw [World.cell?_of_block e]; exact h.c j hj, fun j hj => by rw [World.frozen?_of_block e]; exact h.f j hj⟩
theorem Vr.next {V V' : World} {b : Nat} (h : Vr V b) (hb : Below V.heap.size V V') : Vr V' b :=
  h.kept (row := none) ⟨hb.os, hb.tape, hb.output, hb.size, fun k hk _ => hb.block k hk⟩ (by simp)
theorem Vr.made (w : World) (a b c d e : Value) (t : TypeId) : Vr (w.alloc (.cells #[a, b, c, d, e] t)) w.heap.size := by
  have hn := heap_alloc_new w (.cells #[a, b, c, d, e] t)
  refine ⟨by simp, fun j hj => ?_, fun j hj => World.frozen?_alloc_new w _ _ _⟩
  have hj2 : j < #[a, b, c, d, e].toList.length := hj
  have := World.news_of_block hn j _ (List.getElem?_eq_getElem hj2)
  rw [Ev.add_at, Nat.zero_add] at this
  exact ⟨_, this⟩
set_option maxHeartbeats 8000000 in
set_option maxRecDepth 100000 in
theorem walk (a0 a1 : Int) (w : World) (w0 : (Lit.int .i32 a0).wf = true) (w1 : (Lit.int .i64 a1).wf = true) (hT : Tab w) :
    Calls Tryd.prog 7 #[.int .i32 a0, .int .i64 a1] w fun e w' => e = .returned (.bool true) ∧ Below w.heap.size w w' := by
  obtain ⟨b0, b0'⟩ := bd_i32 w0
  obtain ⟨b1, b1'⟩ := bd_i64 w1
  have HSP : SpTab w := ⟨hT.space⟩
  have HTT : Hid (∀ V, Below w.heap.size w V → SpTab V ∧ Proofs.YthpdgghjaglhnaaDoor.Tab V) := Lib.hid fun V hV => ⟨HSP.stab fun k hk => hV.block k (Nat.lt_of_lt_of_le hk (tab_base HSP (fun _ => 0) (fun _ => false) (fun _ => []) (fun _ => Nat.zero_le _)).2), Proofs.YthpdgghjaglhnaaDoor.Tab.below (w := w) hT.pow hV⟩
  have KN : Hid (∀ W, Below w.heap.size w W → Calls Tryd.prog 8 #[] W fun e w' => e = .returned (.bool true) ∧ Below W.heap.size W w') := Lib.hid fun W hW => known11 W (HTT.out W hW).1
  clear hT HSP w0 w1
  by_cases hm : 0 ≤ a1 ∧ a1 ≤ 20
  rotate_left
  · have hm2 : a1 < 0 ∨ (0 ≤ a1 ∧ 20 < a1) := by omega
    clear hm
    rcases hm2 with h | ⟨h, h'⟩
    all_goals
      go_enter Tryd.func7, Tryd.ntmps7
      go_wp2_with (go_at_call 8; (refine (KN.out _ (Below.refl _ _)).mono ?_); rintro e w' ⟨rfl, hb⟩)
      go_ret
      exact ⟨rfl, hb⟩
  · obtain ⟨g1, g2⟩ := hm
    obtain ⟨N, rfl⟩ := Int.eq_ofNat_of_zero_le g1
    have hN : N ≤ 20 := by omega
    obtain ⟨u, hu⟩ : ∃ u : Nat, (u : Int) = a0 % 4294967296 := ⟨(a0 % 4294967296).toNat, by omega⟩
    have hu2 : u < 4294967296 := by omega
    have cv1 : ∀ W, (convert 21 49 (.int .i32 a0)).run Tryd.prog W = .ok (.int .u32 (u : Int)) W := fun W => by
      rw [hu]
      have e : IntKind.u32.wrap a0 = a0 % 4294967296 := by rw [IntKind.wrap_u32]
      simp [convert, run_underlying Tryd.underlying21, run_underlying Tryd.underlying49, Conv.intToInt, e]
    have hmk := made_run N (by omega)
    have HZ0 := Lib.hid (made_zs w N)
    have HU := Lib.hid hu
    clear hu g1
    go_enter Tryd.func7, Tryd.ntmps7
    go_wp2_with fail
    go_loopw [6] (fun iv wr => ∃ k : Nat, iv = .int .i64 (k : Int) ∧ k ≤ N ∧ Hid (Zs w wr w.heap.size N k)) (fun iv _ => N - (intOf iv).toNat)
    case atStart => exact ⟨0, rfl, Nat.zero_le _, HZ0⟩
    case round =>
      clear HZ0 hmk
      obtain ⟨k, rfl, hk, HZ⟩ := hrel
      by_cases hlt : k < N
      · have HZ2 := Lib.hid (HZ.out.set hlt)
        have hc := HZ.out.c k hlt
        have hf := HZ.out.f k hlt
        go_wp2_with fail
        exact ⟨⟨k + 1, by simp, by omega, HZ2⟩, by simp [intOf]; try omega⟩
      · obtain rfl : k = N := by omega
        clear hlt hk
        have HZr := Lib.hid HZ.out
        have hwz : w.heap.size < wr.heap.size := HZ.out.hi
        obtain ⟨i0, hi0, hz0, hz1, hz2⟩ := info_parts infoB0
        have HLN := dgs_len u hu2
        obtain ⟨D16, hD16⟩ : ∃ l, l = dgs 16 u := ⟨_, rfl⟩
        obtain ⟨D10, hD10⟩ : ∃ l, l = dgs 10 u := ⟨_, rfl⟩
        have h16 : D16.length ≤ 8 := by rw [hD16]; exact HLN.2
        have h10 : D10.length ≤ 10 := by rw [hD10]; exact HLN.1
        have HG16 := Lib.hid fun V => digits16 u hu2 V
        have HG10 := Lib.hid fun V => digits10 u hu2 V
        rw [← hD16] at HG16
        rw [← hD10] at HG10
        have HD16 := Lib.hid hD16
        have HD10 := Lib.hid hD10
        clear HLN hD16 hD10 HZ
        -- ahead of the first digits
        have HN1 := Lib.hid (one_own wr wr.heap.size (Nat.le_refl _) 48)
        have HZ1 := Lib.hid (HZr.out.next ((Below.refl _ _).alloc (Nat.le_refl _) (.cells #[.int .u8 48] 5)))
        have hs1 : (wr.alloc (.cells #[.int .u8 48] 5)).heap.size = wr.heap.size + 1 := by simp
        go_upto_region 11 with (first
          | (at_builtin; refine wpList_append_rd rfl (.tmp 33) (.tmp 34) 22 rfl wr.heap.size 5 i0 (.int .u8 0) 1 Tryd.underlying22 hi0 hz0 hz1 hz2 rfl _ _ _ rfl HN1.out (wr.alloc (.cells #[.int .u8 48] 5)).heap.size .u8 _ _ _ _ rfl HZ1.out.rd (by unfold maxLen; omega) (by omega) (by simp) ?_; intro v35 w2 ho hg; have HO35 := Lib.hid ho; have HZ2 := Lib.hid (HZ1.out.kept hg (by show some wr.heap.size ≠ some w.heap.size; intro e; have := Option.some.inj e; omega) (fun z e => by obtain rfl : wr.heap.size = z := Option.some.inj e; omega)); have hs2 : wr.heap.size < w2.heap.size := (by have := hg.size; rw [hs1] at this; omega); clear ho hg)
          | (go_at_call 20; (refine (HG16.out _).mono ?_); rintro e w3 ⟨v38, rfl, ho, hb⟩; have HO35b := Lib.hid (own_below HO35.out hb); have HO38 := Lib.hid ho; have HZ3 := Lib.hid (HZ2.out.next hb); have hs3 := hb.size; clear ho hb; obtain ⟨A38, c38, hv38, hc38, hr38⟩ := rd_own HO38.out; subst hv38; have HR38 := Lib.hid hr38; clear hr38)
          | (at_builtin; refine wpList_append_rd rfl (.tmp 35) (.tmp 38) 22 rfl wr.heap.size 5 i0 (.int .u8 0) 1 Tryd.underlying22 hi0 hz0 hz1 hz2 rfl _ _ _ rfl HO35b.out w3.heap.size .u8 _ _ _ _ rfl HR38.out (by unfold maxLen; omega) (by omega) (by omega) ?_; intro v39 w4 ho hg; have HO39 := Lib.hid ho; have HZ4 := Lib.hid (HZ3.out.kept hg (fun e => by have := (HO35b.out.lt _ e).1; omega) (fun z e => by have := (HO35b.out.lt z e).1; omega)); have hs4 := hg.size; clear ho hg))
        have hx9 : 1 + k + D16.length = (hexL k u).length := by unfold hexL; rw [HD16.out, List.length_append, List.length_replicate]; omega
        have hx9v : ([Value.int .u8 48] ++ valsOf .u8 (List.replicate k 48)) ++ valsOf .u8 D16 = valsOf .u8 (hexL k u) := by unfold hexL valsOf; rw [HD16.out, List.replicate_succ]; simp
        have HO39 : Hid (w4.ownsRow wr.heap.size 5 1 v39 (hexL k u).length (valsOf .u8 (hexL k u))) := Lib.hid (by rw [← hx9, ← hx9v]; exact HO39.out)
        have hXl := hexL_len k u hN hu2
        have HBX := Lib.hid fun x (hx : x ∈ hexL k u) => (by have := nu_cases (hexL_nu k u x hx); omega : 0 ≤ x ∧ x < 256)
        have HPH := Lib.hid (pure_h (k := k) hN HU.out ⟨b0, b0'⟩)
        have HPX := Lib.hid (pure_x (k := k) hN HU.out ⟨b0, b0'⟩)
        have HPD := Lib.hid (pure_d (k := k) hN HU.out ⟨b0, b0'⟩)
        generalize hexL k u = HX at *
        obtain ⟨A39, c39, hv39, hc39, hr39⟩ := rd_own HO39.out
        subst hv39
        have HR39 := Lib.hid hr39
        have hw4 : wr.heap.size < w4.heap.size := by omega
        clear HO35 HO35b HO38 HR38 HZ1 HZ2 HZ3 HN1 hx9 hx9v hr39 HZr
        have H72 := Lib.hid (nws w (HX ++ [72]) (n := HX.length + 1) (by simp) (by omega) (fun x hx => (List.mem_append.1 hx).elim (HBX.out x) (fun h => by simp at h; omega)) HTT.out)
        have H88 := Lib.hid (nws w (HX ++ [88]) (n := HX.length + 1) (by simp) (by omega) (fun x hx => (List.mem_append.1 hx).elim (HBX.out x) (fun h => by simp at h; omega)) HTT.out)
        have HDL := decL_len k u hN hu2
        have HBD := Lib.hid fun x (hx : x ∈ decL k u) => (by have := decL_dig k u x hx; omega : 0 ≤ x ∧ x < 256)
        have HDE := Lib.hid (nws w (decL k u) rfl (by omega) HBD.out HTT.out)
        have hDX : List.replicate k 48 ++ D10 = decL k u := by unfold decL; rw [HD10.out]
        have hDn : k + D10.length = (decL k u).length := by rw [← hDX]; simp
        rw [HPH.out.1, HPH.out.2] at H72
        have hu255 : u ≤ 255 ∨ 255 < u := by omega
        have hu31 : u ≤ 2147483647 ∨ 2147483647 < u := by omega
        obtain ⟨s88, v88, HX88, hk88⟩ : ∃ s88 v88, Hid (Nws w (HX.length + 1) (HX ++ [88]) s88 v88) ∧ ((u ≤ 255 ∧ s88 = 27 ∧ v88 = a0) ∨ (255 < u ∧ s88 = 0)) := ⟨_, _, H88, by
          rcases hu255 with h | h
          · exact .inl ⟨h, HPX.out.1 h⟩
          · exact .inr ⟨h, HPX.out.2 h⟩⟩
        obtain ⟨sde, vde, HDE2, hkde⟩ : ∃ sde vde, Hid (Nws w (decL k u).length (decL k u) sde vde) ∧ ((u ≤ 2147483647 ∧ sde = 26 ∧ vde = a0) ∨ (2147483647 < u ∧ sde = 0)) := ⟨_, _, HDE, by
          rcases hu31 with h | h
          · exact .inl ⟨h, HPD.out.1 h⟩
          · exact .inr ⟨h, HPD.out.2 h⟩⟩
        have HDX := Lib.hid hDX
        have HDN := Lib.hid hDn
        generalize decL k u = DL at *
        clear H88 HDE HPH HPX HPD HBX HBD hu255 hu31 hDX hDn
        go_upto_region 13 with (first
          | (at_builtin; refine wpList_append_rd rfl (.const (.slice none 0 0)) (.tmp 40) 22 rfl w4.heap.size 5 i0 (.int .u8 0) 1 Tryd.underlying22 hi0 hz0 hz1 hz2 rfl _ _ _ rfl (World.ownsRow_nil _ _ _ _) w4.heap.size .u8 _ _ _ _ rfl HR39.out (by unfold maxLen; omega) (by omega) (Nat.le_refl _) ?_; intro v41 w5 ho hg0; have hg : w4.grownBy w5 none := hg0; have HO41 := Lib.hid (own_below ho ((Below.refl _ _).alloc (Nat.le_refl _) (.cells #[.int .u8 72] 5))); have HL41 := Lib.hid fun k (hk : v41.ownBlock = some k) => (ho.lt k hk); have HO39b := Lib.hid (own_kept HO39.out hg (fun k _ e => by cases e)); have HZ5 := Lib.hid (HZ4.out.kept hg (by simp) (fun z e => by cases e)); have hs5 := hg.size; have HR42 := Lib.hid (one_rd w5 72); have HZ5a := Lib.hid (HZ5.out.next ((Below.refl _ _).alloc (Nat.le_refl _) (.cells #[.int .u8 72] 5))); have HO39c := Lib.hid (own_below HO39b.out ((Below.refl _ _).alloc (Nat.le_refl _) (.cells #[.int .u8 72] 5))); have hs5a : (w5.alloc (.cells #[.int .u8 72] 5)).heap.size = w5.heap.size + 1 := (by simp); clear ho hg hg0)
          | (at_builtin; refine wpList_append_rd rfl (.tmp 41) (.tmp 42) 22 rfl w4.heap.size 5 i0 (.int .u8 0) 1 Tryd.underlying22 hi0 hz0 hz1 hz2 rfl _ _ _ rfl HO41.out (w5.alloc (.cells #[.int .u8 72] 5)).heap.size .u8 _ _ _ _ rfl HR42.out (by unfold maxLen; omega) (by omega) (by omega) ?_; intro v43 w6 ho hg; have HZ6 := Lib.hid (HZ5a.out.kept hg (fun e => by have := (HL41.out _ e).1; omega) (fun z e => by have := (HL41.out z e).1; omega)); have HO39d := Lib.hid (own_kept HO39c.out hg (fun k hk e => by have h1 := (HL41.out k e).1; have h2 := (HO39.out.lt k hk).2; omega)); have hs6 := hg.size; have ho2 : w6.ownsRow w4.heap.size 5 1 v43 (HX.length + 1) (valsOf .u8 (HX ++ [72])) := (by have := ho; simpa [valsOf] using this); obtain ⟨A43, c43, hv43, hc43, hr43⟩ := rd_own ho2; subst hv43; have HNW := Lib.hid (H72.out w6 A43 c43 HZ6.out.b hr43); clear ho hg ho2 hr43)
          | (go_at_call 9; (with_reducible refine HNW.out.mono ?_); rintro e w7 ⟨p7, po, id7, tx, rfl, hb, hsym⟩; have HSY := Lib.hid hsym; have HZ7 := Lib.hid (HZ6.out.next hb); have HO39e := Lib.hid (own_below HO39d.out hb); have hs7 := hb.size; clear hb hsym)
          | (go_at_call 12; (with_reducible refine HSY.out.mono ?_); rintro e w8 ⟨rfl, hb⟩; have HZ8 := Lib.hid (HZ7.out.next hb); have HO39f := Lib.hid (own_below HO39e.out hb); have hs8 := hb.size; clear hb))
        have HZ9 := Lib.hid (HZ8.out.next ((Below.refl _ _).alloc (Nat.le_refl _) (.cells #[.int .i64 26, .int .i64 po, .int .i32 a0, .int .i64 id7, .string tx] 29)))
        have HO39z := Lib.hid (own_below HO39f.out ((Below.refl _ _).alloc (Nat.le_refl _) (.cells #[.int .i64 26, .int .i64 po, .int .i32 a0, .int .i64 id7, .string tx] 29)))
        have hs9 : w8.heap.size ≤ (w8.alloc (.cells #[.int .i64 26, .int .i64 po, .int .i32 a0, .int .i64 id7, .string tx] 29)).heap.size := by simp
        have hW9 : w4.heap.size ≤ (w8.alloc (.cells #[.int .i64 26, .int .i64 po, .int .i32 a0, .int .i64 id7, .string tx] 29)).heap.size := by omega
        clear HO41 HL41 HO39b HZ5 HR42 HZ5a HO39c hs5a HZ6 HO39d HNW HZ7 HO39e HSY HZ8 HO39f HO39 HR39 HZ4 H72
        go_upto_region 15 with (fail)
        generalize w8.alloc (.cells #[.int .i64 26, .int .i64 po, .int .i32 a0, .int .i64 id7, .string tx] 29) = W9 at *
        obtain ⟨A9, c9, e9, hc9, hr9⟩ := rd_own HO39z.out
        obtain ⟨rfl, rfl⟩ : A39 = A9 ∧ c39 = c9 := by injection e9 with e1 _ e3; exact ⟨e1, e3⟩
        have HR39c := Lib.hid hr9
        clear hr9 e9 hs5 hs6 hs7 hs8 hs9 hc43
        go_upto_region 17 with (first
          | (at_builtin; refine wpList_append_rd rfl (.const (.slice none 0 0)) (.tmp 56) 22 rfl W9.heap.size 5 i0 (.int .u8 0) 1 Tryd.underlying22 hi0 hz0 hz1 hz2 rfl _ _ _ rfl (World.ownsRow_nil _ _ _ _) W9.heap.size .u8 _ _ _ _ rfl HR39c.out (by unfold maxLen; omega) (by omega) (Nat.le_refl _) ?_; intro v41 w5 ho hg0; have hg : W9.grownBy w5 none := hg0; have HO41 := Lib.hid (own_below ho ((Below.refl _ _).alloc (Nat.le_refl _) (.cells #[.int .u8 88] 5))); have HL41 := Lib.hid fun k (hk : v41.ownBlock = some k) => (ho.lt k hk); have HO39b := Lib.hid (own_kept HO39z.out hg (fun k _ e => by cases e)); have HZ5 := Lib.hid (HZ9.out.kept hg (by simp) (fun z e => by cases e)); have hs5 := hg.size; have HR42 := Lib.hid (one_rd w5 88); have HZ5a := Lib.hid (HZ5.out.next ((Below.refl _ _).alloc (Nat.le_refl _) (.cells #[.int .u8 88] 5))); have HO39c := Lib.hid (own_below HO39b.out ((Below.refl _ _).alloc (Nat.le_refl _) (.cells #[.int .u8 88] 5))); have hs5a : (w5.alloc (.cells #[.int .u8 88] 5)).heap.size = w5.heap.size + 1 := (by simp); clear ho hg hg0)
          | (at_builtin; refine wpList_append_rd rfl (.tmp 57) (.tmp 58) 22 rfl W9.heap.size 5 i0 (.int .u8 0) 1 Tryd.underlying22 hi0 hz0 hz1 hz2 rfl _ _ _ rfl HO41.out (w5.alloc (.cells #[.int .u8 88] 5)).heap.size .u8 _ _ _ _ rfl HR42.out (by unfold maxLen; omega) (by omega) (by omega) ?_; intro v43 w6 ho hg; have HZ6 := Lib.hid (HZ5a.out.kept hg (fun e => by have := (HL41.out _ e).1; omega) (fun z e => by have := (HL41.out z e).1; omega)); have HO39d := Lib.hid (own_kept HO39c.out hg (fun k hk e => by have h1 := (HL41.out k e).1; have h2 := (HO39z.out.lt k hk).2; omega)); have hs6 := hg.size; have ho2 : w6.ownsRow W9.heap.size 5 1 v43 (HX.length + 1) (valsOf .u8 (HX ++ [88])) := (by have := ho; simpa [valsOf] using this); obtain ⟨A43, c43, hv43, hc43, hr43⟩ := rd_own ho2; subst hv43; have HNW := Lib.hid (HX88.out w6 A43 c43 HZ6.out.b hr43); clear ho hg ho2 hr43)
          | (go_at_call 9; (with_reducible refine HNW.out.mono ?_); rintro e w7 ⟨p7, po, id7, tx, rfl, hb, hsym⟩; have HSY := Lib.hid hsym; have HZ7 := Lib.hid (HZ6.out.next hb); have HO39e := Lib.hid (own_below HO39d.out hb); have hs7 := hb.size; clear hb hsym)
          | (go_at_call 12; (with_reducible refine HSY.out.mono ?_); rintro e w8 ⟨rfl, hb⟩; have HZ8 := Lib.hid (HZ7.out.next hb); have HO39f := Lib.hid (own_below HO39e.out hb); have hs8 := hb.size; clear hb))
        have HZ12 := Lib.hid (HZ8.out.next ((Below.refl _ _).alloc (Nat.le_refl _) (.cells #[.int .i64 s88, .int .i64 po, .int .i32 v88, .int .i64 id7, .string tx] 29)))
        have HV12 := Lib.hid (Vr.made w8 (.int .i64 s88) (.int .i64 po) (.int .i32 v88) (.int .i64 id7) (.string tx) 29)
        have hW12 : W9.heap.size ≤ (w8.alloc (.cells #[.int .i64 s88, .int .i64 po, .int .i32 v88, .int .i64 id7, .string tx] 29)).heap.size := by simp; omega
        have hb8 : w.heap.size ≤ w8.heap.size := HZ8.out.b.size
        have hb9 : w.heap.size < w8.heap.size + 1 := by omega
        have hl12 : w8.heap.size < (w8.alloc (.cells #[.int .i64 s88, .int .i64 po, .int .i32 v88, .int .i64 id7, .string tx] 29)).heap.size := by simp
        clear HO41 HL41 HO39b HZ5 HR42 HZ5a HO39c hs5a HZ6 HO39d HNW HZ7 HO39e HSY HZ8 HO39f HO39z HR39c HZ9 HX88 hs5 hs6 hs7 hs8 hc43
        obtain ⟨bu, hbu, hk88⟩ : ∃ bu : Bool, decide ((u : Int) ≤ 255) = bu ∧ ((bu = true ∧ s88 = 27 ∧ v88 = a0) ∨ (bu = false ∧ s88 = 0)) := by
          rcases hk88 with ⟨h1, h2, h3⟩ | ⟨h1, h2⟩
          · exact ⟨true, by simp; omega, .inl ⟨rfl, h2, h3⟩⟩
          · exact ⟨false, by simp; omega, .inr ⟨rfl, h2⟩⟩
        rcases hk88 with ⟨rfl, rfl, rfl⟩ | ⟨rfl, rfl⟩
        all_goals
          go_upto_region 19 with (fail)
        all_goals
          rcases hkde with ⟨hu6, rfl, rfl⟩ | ⟨hu6, rfl⟩
        all_goals try (exfalso; have h1 := of_decide_eq_true hbu; clear hbu; omega)
        all_goals
          first
            | (have hbd : decide ((u : Int) < 2147483648) = true := (by simp; omega))
            | (have hbd : decide ((u : Int) < 2147483648) = false := (by simp; omega))
          clear hu6
          go_wp2_with (first
            | (at_builtin; refine wpList_append_rd rfl (.const (.slice none 0 0)) (.tmp 75) 22 rfl (w8.heap.size + 1) 5 i0 (.int .u8 0) 1 Tryd.underlying22 hi0 hz0 hz1 hz2 rfl _ _ _ rfl (World.ownsRow_nil _ _ _ _) _ .u8 _ _ _ _ rfl HZ12.out.rd (by unfold maxLen; omega) (by omega) (by simp) ?_; intro v76 w10 ho hg0; have hg := (show World.grownBy _ w10 none from hg0); have HO76 := Lib.hid ho; have HZ13 := Lib.hid (HZ12.out.kept hg (by simp) (fun z e => by cases e)); have HV13 := Lib.hid (HV12.out.kept hg (by simp)); have hs10 : w8.heap.size + 1 ≤ w10.heap.size := (by have := hg.size; simp at this; omega); clear ho hg hg0)
            | (go_at_call 20; (refine (HG10.out _).mono ?_); rintro e w11 ⟨v79, rfl, ho, hb⟩; have HO76b := Lib.hid (own_below HO76.out hb); have HO79 := Lib.hid ho; have HZ14 := Lib.hid (HZ13.out.next hb); have HV14 := Lib.hid (HV13.out.next hb); have hs11 := hb.size; clear ho hb; obtain ⟨A79, c79, hv79, hc79, hr79⟩ := rd_own HO79.out; subst hv79; have HR79 := Lib.hid hr79; clear hr79)
            | (at_builtin; refine wpList_append_rd rfl (.tmp 76) (.tmp 79) 22 rfl (w8.heap.size + 1) 5 i0 (.int .u8 0) 1 Tryd.underlying22 hi0 hz0 hz1 hz2 rfl _ _ _ rfl HO76b.out w11.heap.size .u8 _ _ _ _ rfl HR79.out (by unfold maxLen; omega) (by omega) (by omega) ?_; intro v80 w12 ho hg; have HZ15 := Lib.hid (HZ14.out.kept hg (fun e => by have := (HO76b.out.lt _ e).1; omega) (fun z e => by have := (HO76b.out.lt z e).1; omega)); have HV15 := Lib.hid (HV14.out.kept hg (fun e => by have := (HO76b.out.lt _ e).1; omega)); have ho2 : w12.ownsRow (w8.heap.size + 1) 5 1 v80 DL.length (valsOf .u8 DL) := (by rw [← HDN.out, ← HDX.out]; have := ho; simpa [valsOf] using this); obtain ⟨A80, c80, hv80, hc80, hr80⟩ := rd_own ho2; subst hv80; have HNW := Lib.hid (HDE2.out w12 A80 c80 HZ15.out.b hr80); clear ho hg ho2 hr80)
            | (go_at_call 9; (with_reducible refine HNW.out.mono ?_); rintro e w13 ⟨p13, po13, id13, tx13, rfl, hb, hsym⟩; have HSY := Lib.hid hsym; have HZ16 := Lib.hid (HZ15.out.next hb); have HV16 := Lib.hid (HV15.out.next hb); clear hb hsym)
            | (go_at_call 12; (with_reducible refine HSY.out.mono ?_); rintro e w14 ⟨rfl, hb⟩; have HZ17 := Lib.hid (HZ16.out.next hb); have HV17 := Lib.hid (HV16.out.next hb); clear hb; obtain ⟨x0, q0⟩ := HV17.out.c 0 (by omega); obtain ⟨x1, q1⟩ := HV17.out.c 1 (by omega); obtain ⟨x2, q2⟩ := HV17.out.c 2 (by omega); obtain ⟨x3, q3⟩ := HV17.out.c 3 (by omega); obtain ⟨x4, q4⟩ := HV17.out.c 4 (by omega); have y0 := HV17.out.f 0 (by omega); have y1 := HV17.out.f 1 (by omega); have y2 := HV17.out.f 2 (by omega); have y3 := HV17.out.f 3 (by omega); have y4 := HV17.out.f 4 (by omega); have HKW : Hid (∀ a b c d e : Value, Below w.heap.size w (((((w14.setCell ⟨w8.heap.size, 0, none⟩ a).setCell ⟨w8.heap.size, 1, none⟩ b).setCell ⟨w8.heap.size, 2, none⟩ c).setCell ⟨w8.heap.size, 3, none⟩ d).setCell ⟨w8.heap.size, 4, none⟩ e)) := Lib.hid fun a b c d e => (((((HZ17.out.b).setCell hb8 a).setCell hb8 b).setCell hb8 c).setCell hb8 d).setCell hb8 e)
            | (go_at_call 8; (refine (KN.out _ (HKW.out _ _ _ _ _)).mono ?_); rintro e w15 ⟨rfl, hb⟩; have HE := Lib.hid ((HKW.out _ _ _ _ _).trans (hb.mono (HKW.out _ _ _ _ _).size)); clear hb))
        all_goals
          go_ret
          first
            | exact ⟨rfl, HE.out⟩
            | exact ⟨rfl, HKW.out _ _ _ _ _⟩
theorem own : ownKnob Tryd.prog.godebug = none := by kernel_rfl
theorem laidOut : laidOutB Tryd.prog = true := by kernel_rfl
theorem gTab5 : Tryd.prog.globalNamed "strings.asciiSpace" = some 0 := by kernel_rfl
theorem gTab2 : Tryd.prog.globalNamed "internal/strconv.uint64pow10" = some 6 := by kernel_rfl
set_option maxRecDepth 1000000 in
theorem tables {W : World} (h0 : laidMetH Tryd.prog Rows.scanNumbersRow.laid W) : Tab W := by
  rw [MakeChecks.laidMetH_plain _ _ _ (by kernel_rfl)] at h0
  have h : laidMet Tryd.prog Rows.scanNumbersRow.laid W := h0
  exact ⟨Lib.tabIs_of_head (rest := _) gTab5 (by kernel_rfl) Tryd.underlying57 Tryd.underlying5 (by kernel_rfl) (by kernel_rfl) (laidMet.tail (laidMet.tail (laidMet.tail (laidMet.tail (laidMet.tail h))))), Lib.tabIs_of_head (rest := _) gTab2 (by kernel_rfl) Tryd.underlying150 Tryd.underlying47 (by kernel_rfl) (by kernel_rfl) (laidMet.tail (laidMet.tail h))⟩
set_option maxRecDepth 1000000 in
theorem contract (H : Type) (enc : TypeId × Value → H) (W : World) (base : Nat) (args : Array Value) (ds gs : List (DataW H)) (before : List MemPlace)
    (hval : ∀ (j : Nat) t v, Tryd.f7.params[j]? = some t → args[j]? = some v → Value.okWide Tryd.prog W .any base t v)
    (hW : DataW.Whole enc Tryd.prog Tryd.f7.params.toList Rows.scanNumbersSpec.vars false W args.toList ds gs before) (hL : laidMetH Tryd.prog Rows.scanNumbersRow.laid W) :
    Calls Tryd.prog 7 args W fun e W' => ∃ v, e = .returned v ∧ Rows.scanNumbersSpec.post enc Tryd.prog Tryd.f7 false true false false W args v W' := by
  have hW' := hW
  obtain ⟨p, q, hA0, hV, rfl, hfz, hnd⟩ := hW
  have hA : DataW.TrodAll enc Tryd.prog W 0 (fun _ => true) true Tryd.f7.params.toList args.toList ds p := hA0
  rw [Tryd.params7] at hA hval
  obtain ⟨v0, vs0, d0, ds0, p0, q0, hargs, rfl, rfl, h0, r0⟩ := trodAll_cons hA
  obtain ⟨v1, vs1, d1, ds1, p1, q1, rfl, rfl, rfl, h1, r1⟩ := trodAll_cons r0
  obtain ⟨rfl, rfl, rfl⟩ := trodAll_nil r1
  obtain rfl : args = #[v0, v1] := by cases args; simp_all
  obtain ⟨rfl, rfl⟩ := trodVars_none hV
  obtain ⟨a0, rfl, rfl, rfl, w0⟩ := open_int Tryd.underlying21 (hval 0 21 v0 rfl rfl) h0
  obtain ⟨a1, rfl, rfl, rfl, w1⟩ := open_int Tryd.underlying3 (hval 1 3 v1 rfl rfl) h1
  clear hA0
  have hT := tables hL
  refine (walk a0 a1 W w0 w1 hT).mono fun e W' ⟨he, bel⟩ => ?_
  subst he
  exact ⟨_, rfl, _, _, _, [], _, [], hW', trodAll_mk1 (shut_bool Tryd.underlying4 _), (trodAll_cons_mk (shut_int Tryd.underlying21 w0) (trodAll_cons_mk (shut_int Tryd.underlying3 w1) trodAll_mk0)), rfl, bel.frame _, fun h => by cases h⟩
theorem witness_shaped {H : Type} {enc : TypeId × Value → H} {C : Checked} {os : Os} {f : FuncId} {fn : Func} {s : OpenSpec} {conds : List PathCond} {apart : Bool} {laid : List (String × DataW Unit)} (modest : Bool) (w0 : World) (args : Array Value) (hos : w0.os = os)
    (hsh : (w0.forCall (fun _ _ => 0) ⟨#[], args, []⟩).Shaped C.prog) (hok : Input.okWideB C.prog (w0.forCall (fun _ _ => 0) ⟨#[], args, []⟩) f ⟨#[], args, []⟩ = true)
    (hrow : s.preRow enc C.prog fn conds apart laid (w0.forCall (fun _ _ => 0) ⟨#[], args, []⟩).memory args) :
    ∃ (w : World) (tape : Tape) (i : Input), w.os = os ∧ (w.forCall tape i).Shaped C.prog ∧ i.vars = [] ∧ Input.okWide C.prog (w.forCall tape i) .any w.heap.size f i ∧
      s.preRow enc C.prog fn conds apart laid (w.forCall tape i).memory i.args ∧ ({ modest := modest } : Assume).holds C.prog (lone (Frame.enter C.prog f i.args .normal) [] (w.forCall tape i)) :=
  ⟨w0, fun _ _ => 0, ⟨#[], args, []⟩, hos, hsh, (Input.okWide_of_okWideB (base := 0) hok).1, (Input.okWide_of_okWideB hok).2, hrow, by
    simp only [Assume.holds]
    exact ⟨by simp, by simp, fun _ => Modest.zero, by simp, by simp⟩⟩
set_option maxRecDepth 1000000 in
theorem laid_met (os : Os) : laidMetH Tryd.prog Rows.scanNumbersRow.laid ((World.laidAll Tryd.prog os Rows.scanNumbersRow.laid).forCall (fun _ _ => 0) ⟨#[], #[.int .i32 0, .int .i64 0], []⟩).memory := by
  rw [MakeChecks.laidMetH_plain _ _ _ (by kernel_rfl)]
  exact laidMet_laidAll _ (by kernel_rfl) (by kernel_rfl)
set_option maxRecDepth 1000000 in
theorem reads (os : Os) {H : Type} (enc : TypeId × Value → H) : ∃ places, DataW.whole enc Tryd.prog ((World.laidAll Tryd.prog os Rows.scanNumbersRow.laid).forCall (fun _ _ => 0) ⟨#[], #[.int .i32 0, .int .i64 0], []⟩).memory Tryd.f7.params.toList Rows.scanNumbersSpec.vars false (#[.int .i32 0, .int .i64 0] : Array Value).toList 8 = some ([.lit (.int .i32 0), .lit (.int .i64 0)], [], places) := ⟨[], by kernel_rfl⟩
set_option maxRecDepth 1000000 in
theorem lifted (os : Os) (started : os.Started) (H : Type) (enc : TypeId × Value → H) (F : Stop.Interp) :
    ReturnsInHanded {} Tryd.checked os 7 .any ((OpenSpec.ofChange Rows.scanNumbersSpec).preRow enc Tryd.prog Tryd.f7 Rows.scanNumbersRow.domain false Rows.scanNumbersRow.laid) (((OpenSpec.ofChange Rows.scanNumbersSpec).at F).post enc Tryd.prog Tryd.f7 false true false false) := by
  obtain ⟨places, hx⟩ := reads os enc
  refine returnsInHanded_of_row (C := Tryd.checked) (s := OpenSpec.ofChange Rows.scanNumbersSpec) own started (by kernel_rfl) Tryd.func7
    (witness_shaped (enc := enc) (C := Tryd.checked) false (World.laidAll Tryd.prog os Rows.scanNumbersRow.laid) #[.int .i32 0, .int .i64 0] (World.laidAll_os _ _ _) (World.shaped_of_ZipB (by kernel_rfl) (by kernel_rfl)) (by kernel_rfl)
      (OpenSpec.preRow_of_cond 8 hx (by kernel_rfl) (fun k hk => by cases hk) (by kernel_rfl) (laid_met os))) ?_
  intro W base args ds gs before hval hW _ _ _ hL _ _
  exact contract H enc W base args ds gs before hval hW hL
theorem said : Rows.ScanNumbersSaid :=
  OpenClaim.holds_of_cond 7 Tryd.f7 rfl rfl rfl rfl rfl rfl rfl ⟨rfl, rfl, rfl, rfl, rfl⟩ rfl rfl rfl rfl rfl (by kernel_rfl) Tryd.func7 (by kernel_rfl)
    (of_decide_eq_true (by kernel_rfl)) (by unfold Func.isWrapper; first | (rw [if_pos (by decide +kernel)]; kernel_rfl) | (rw [if_neg (by decide +kernel)]; exact ⟨rfl, rfl⟩))
    (fun os started H enc _ F => by rw [OpenClaim.pre_eq_preRow]; exact lifted os started H enc F)
theorem plain (f : FuncId) (fn : Func) (hf : Tryd.pinned.checked.prog.funcNamed "selfsame/selfsamelaw11.ScanNumbers" = some f) (hfn : Tryd.pinned.checked.prog.funcs[f]? = some fn) :
    false = Tryd.pinned.checked.prog.looks [] ∧ ∀ (j : Nat) t, fn.params[j]? = some t → Tryd.pinned.checked.prog.wantsStandIn t = false := by
  obtain rfl : f = 7 := Option.some.inj ((show Tryd.prog.funcNamed "selfsame/selfsamelaw11.ScanNumbers" = some 7 by kernel_rfl).symm.trans hf) |>.symm
  obtain rfl : fn = Tryd.f7 := (Option.some.inj (Tryd.func7.symm.trans hfn)).symm
  refine ⟨by kernel_rfl, fun j t ht => ?_⟩
  rw [Tryd.params7] at ht
  have hm := Array.mem_of_getElem? ht
  simp only [List.mem_toArray, List.mem_cons, List.not_mem_nil, or_false] at hm
  rcases hm with rfl | rfl
  · exact (show Tryd.prog.wantsStandIn 21 = false by kernel_rfl)
  · exact (show Tryd.prog.wantsStandIn 3 = false by kernel_rfl)
theorem proved : Rows.ScanNumbersCardSaid :=
  Claim7.holds_tied_plain_at .later [] _ _ _ _ said (fun _ h => by cases h) (by kernel_rfl) (fun _ h => by cases h) scanNumbers_row_tie rfl ⟨rfl, rfl⟩ (by kernel_rfl) rfl plain (by kernel_rfl)
end Go.Proofs.YthpdgghjaglhnaaDoor.scanNumbers
