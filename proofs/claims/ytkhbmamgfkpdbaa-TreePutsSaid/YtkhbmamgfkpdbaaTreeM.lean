/-
  tree.Walk: the iterator's contract: all nodes of a copy, each ahead of those below it, with their depths.
-/
import Derived.Test.YtkhbmamgfkpdbaaTreeL
import Derived.Test.YtkhbmamgfkpdbaaTreeP
import Derived.Test.YtkhbmamgfkpdbaaTreeZ
import Derived.Shelf.Abstract
import Derived.Shelf.RegionOpen
import Derived.OwnWalkIn
import Derived.TacticsInMore
import Derived.LoopNIn
import Derived.LoopIn
namespace Go.Proofs.Ytkhbmamgfkpdbaa
open Go.ChangeShapes Go.WideShapes Go.ChangeAt Go.RowKit Go.Shelf
set_option linter.unusedVariables false
attribute [local go_sem] Oper.semAt_some
/-- what a round is handed: a depth, the tree, the node -/
abbrev Told := Int × Tr × Value
def encT (x : Told) : Array Value := #[.int .i64 x.1, x.2.2]
def XT (C : Nat) (L : List (Tr × Int)) (pre : List Told) (x : Told) (A : World) : Prop := L[pre.length]? = some (x.2.1, x.1) ∧ ROwn A (fun b => C ≤ b) x.2.1 x.2.2
theorem XT.stay {C : Nat} {L : List (Tr × Int)} {pre : List Told} {x : Told} {A B : World} (h : XT C L pre x A) (hs : Stay C A B) : XT C L pre x B :=
  ⟨h.1, ROwn.keep _ h.2 fun b hb hS => ⟨hs.2 b hS hb, hS⟩⟩
theorem flatL_seg : ∀ (ts : List Tr) (d : Int) (j : Nat) (h : j < ts.length) (i : Nat), i < ts[j].count → (Tr.flatL ts d)[Tr.countL (ts.take j) + i]? = (ts[j].flat d)[i]?
  | [], _, j, h, _, _ => by simp at h
  | t :: ts, d, 0, h, i, hi => by
    simp only [List.getElem_cons_zero] at hi ⊢
    unfold Tr.flatL
    rw [List.getElem?_append_left (by rw [flat_len]; simp [Tr.countL]; exact hi)]
    simp [Tr.countL]
  | t :: ts, d, j + 1, h, i, hi => by
    simp only [List.getElem_cons_succ] at hi ⊢
    unfold Tr.flatL
    have e : Tr.countL ((t :: ts).take (j + 1)) = t.count + Tr.countL (ts.take j) := by simp [Tr.countL]
    rw [e, List.getElem?_append_right (by rw [flat_len]; omega), flat_len, show t.count + Tr.countL (ts.take j) + i - t.count = Tr.countL (ts.take j) + i by omega]
    exact flatL_seg ts d j (by simpa using h) i hi
/-- the iterator's variables -/
structure Boxes (C l yb wb : Nat) (A : World) : Prop where
  hy : A.heap[yb]? = some (.cells #[.func (.yield l) #[] #[]] 57 (0, 0))
  hw : A.heap[wb]? = some (.cells #[.func (.func 36) #[] #[.pointer (some ⟨yb, 0, none⟩), .pointer (some ⟨wb, 0, none⟩)]] 57 (0, 0))
  y : C ≤ yb
  w : C ≤ wb
theorem Boxes.stay {C l yb wb : Nat} {A B : World} (h : Boxes C l yb wb A) (hs : Stay C A B) : Boxes C l yb wb B :=
  ⟨by rw [hs.2 _ h.y (lt_blk h.hy)]; exact h.hy, by rw [hs.2 _ h.w (lt_blk h.hw)]; exact h.hw, h.y, h.w⟩
theorem stay_alloc {C : Nat} {A : World} (o : Obj) : Stay C A (A.alloc o) := Stay.below (below1 A o)
def WalkT (t : Tr) : Prop := ∀ (C l yb wb : Nat) (L : List (Tr × Int)) (J Jx : List Told → World → Prop), (∀ pre A B, J pre A → Below C A B → J pre B) →
  (∀ pre x A, J pre A → C ≤ A.heap.size → pre.length < L.length → XT C L pre x A → YieldAt Fence.wide 0 Try.prog l (encT x) A fun e B => (e = .returned (.bool true) ∧ J (pre ++ [x]) B ∧ Stay C A B) ∨ (e = .returned (.bool false) ∧ Jx (pre ++ [x]) B)) →
  ∀ (pre : List Told) (d : Int) (u : Value) (A : World), J pre A → C ≤ A.heap.size → Boxes C l yb wb A → ROwn A (fun b => C ≤ b) t u → (∀ i, i < t.count → L[pre.length + i]? = (t.flat d)[i]?) → 0 ≤ d → d + t.count ≤ 100000 → pre.length + t.count ≤ L.length →
  CallsIn Fence.wide 0 Try.prog 36 #[.int .i64 d, u, .pointer (some ⟨yb, 0, none⟩), .pointer (some ⟨wb, 0, none⟩)] A fun e B => (e = .returned (.bool true) ∧ ∃ ys : List Told, ys.length = t.count ∧ J (pre ++ ys) B ∧ Stay C A B) ∨ (e = .returned (.bool false) ∧ ∃ ys, Jx (pre ++ ys) B)
section
variable {k : Int} {s : ByteArray} {v : Int} {m : Bool} {ts : List Tr}
set_option maxHeartbeats 4000000 in
set_option maxRecDepth 100000 in
theorem walkT_one (hk : ∀ j (h : j < ts.length), WalkT ts[j]) : WalkT (.mk k s v m ts) := by
  intro C l yb wb L J Jx hJ hY pre d u A hj hC hB hu hseg d0 d1 hN
  have hdd : ∀ k : Nat, (Fence.wide.depth.isSome = true → 1 ≤ k) := fun k h => by cases h
  have hu0 := hu
  unfold ROwn at hu
  obtain ⟨a, len, cap, xs, F, rfl, hs, h1, h2, ht, ho, hS, hF, hD, hL⟩ := hu
  have hcnt : Tr.count (.mk k s v m ts) = 1 + Tr.countL ts := by unfold Tr.count; rfl
  -- the round at this node
  have hal := below1 A (.cells #[.int .i64 k, .string s, .int .u32 v, .bool m, .slice a len cap] 26)
  have hst := stay_alloc (C := C) (A := A) (.cells #[.int .i64 k, .string s, .int .u32 v, .bool m, .slice a len cap] 26)
  have hY0 := hY pre (d, .mk k s v m ts, nd k s v m a len cap) (A.alloc (.cells #[.int .i64 k, .string s, .int .u32 v, .bool m, .slice a len cap] 26)) (hJ _ _ _ hj (hal.mono hC)) (Nat.le_trans hC hal.size) (by omega)
    ((XT.stay (A := A) ⟨by rw [← Nat.add_zero pre.length, hseg 0 (by omega)]; unfold Tr.flat; rfl, hu0⟩ hst))
  obtain ⟨fn, tmps, assign, body, hy, hR⟩ := hY0
  have hBV := hB.stay hst
  have HO := Lib.hid (Own.start A k s v m a len cap)
  have q1 := cell0 hBV.hy
  have q2 := cell0 hBV.hw
  obtain ⟨e0, e1, e2, e3, e4, -, -⟩ := HO.out
  have hy' : (Instr.yield l #[.int .i64 d, .agg #[.int .i64 k, .string s, .int .u32 v, .bool m, .slice a len cap]]).run Try.prog (A.alloc (.cells #[.int .i64 k, .string s, .int .u32 v, .bool m, .slice a len cap] 26)) = _ := hy
  unfold nd at *
  refine callsIn_of_wp Try.func36 rfl trivial ?_ rfl
  simp only [Try.ntmps36, List.size_toArray, List.length_cons, List.length_nil, Nat.reduceAdd, Nat.reduceSub, Array.replicate_succ, Array.replicate_zero, List.push_toArray, List.append_toArray, List.nil_append, List.cons_append]
  have HL := Lib.hid hL
  have HT := Lib.hid ht
  have HO' := Lib.hid ho
  have HF := Lib.hid hF
  have HS := Lib.hid hS
  have HSEG := Lib.hid hseg
  have HK := Lib.hid hk
  have HJ := Lib.hid hJ
  have HY := Lib.hid hY
  have HB := Lib.hid hB
  have HCN := Lib.hid hcnt
  have hlen : len ≤ 100000 := by have := len_count ts; omega
  have hVA : A.heap.size < (A.alloc (.cells #[.int .i64 k, .string s, .int .u32 v, .bool m, .slice a len cap] 26)).heap.size := by simp
  have hd9 : d + 1 + Tr.countL ts ≤ 100000 := by omega
  have hN9 : pre.length + (1 + Tr.countL ts) ≤ L.length := by omega
  have hd8 : d ≤ 100000 := by omega
  clear hk hJ hY hB hseg hL ht ho hF hS hD hu0 hBV hal hj hy hcnt d1 hN
  gi_wp2
  refine ⟨rfl, hR.mono ?_⟩
  rintro e B (⟨rfl, hj1, hs1⟩ | ⟨rfl, hx1⟩)
  · have e4' : B.cell? ⟨A.heap.size, 4, none⟩ = some (.slice a len cap) := by rw [World.cell?_of_block (w := A.alloc (.cells #[.int .i64 k, .string s, .int .u32 v, .bool m, .slice a len cap] 26)) (hs1.2 _ hC hVA)]; exact e4
    have HST : Hid (Stay C A B) := Lib.hid (hst.trans hs1)
    have HJ1 := Lib.hid hj1
    clear hs1 hst hj1 hR hy' e0 e1 e2 e3 e4 q1 q2
    gi_wp2
    gi_loopw [17] (fun p wr => ∃ (j : Nat) (ys : List Told), p = .int .i64 j ∧ j ≤ len ∧ Hid (ys.length = 1 + Tr.countL (ts.take j) ∧ J (pre ++ ys) wr ∧ Stay C A wr)) (fun p _ => len - (intOf p).toNat)
    case atStart => exact ⟨0, [(d, .mk k s v m ts, .agg #[.int .i64 k, .string s, .int .u32 v, .bool m, .slice a len cap])], rfl, Nat.zero_le _, Lib.hid ⟨by simp [Tr.countL], HJ1.out, HST.out⟩⟩
    case round =>
      obtain ⟨j, ys, rfl, hj, HR⟩ := hrel
      clear HJ1 HST e4'
      by_cases hlt : j < len
      · have hjt : j < ts.length := by rw [HT.out]; exact hlt
        have hrow : wr.ownsRow 0 26 5 (.slice a len cap) len xs := ownsRow_keep HO'.out fun b hb => HR.out.2.2.2 b (HS.out b hb) (HO'.out.lt b hb).2
        obtain ⟨g, rfl, -, hg⟩ := (ownsRow_bounds hrow).2.2.2 (by omega)
        have hkx : KidX xs j (ROwn wr (fun b => C ≤ b) ts[j]) := (rownL_get0 HL.out (List.getElem?_eq_getElem hjt)).imp fun u' hu' => ROwn.keep _ hu' fun b hb hFb => ⟨HR.out.2.2.2 b (HF.out j b hFb).1 hb, (HF.out j b hFb).1⟩
        obtain ⟨k', s', v', m', a', l', c', hkid, hex⟩ := kid_own hrow hkx
        obtain ⟨g0, g1, g2, g3, g4⟩ := hkid.at
        simp only [cell_add] at g0 g1 g2 g3 g4
        have hal := below1 wr (.cells #[.int .i64 k', .string s', .int .u32 v', .bool m', .slice a' l' c'] 26)
        have hst2 := stay_alloc (C := C) (A := wr) (.cells #[.int .i64 k', .string s', .int .u32 v', .bool m', .slice a' l' c'] 26)
        have hCw : C ≤ wr.heap.size := Nat.le_trans hC HR.out.2.2.1
        have hBx : Boxes C l yb wb (wr.alloc (.cells #[.int .i64 k', .string s', .int .u32 v', .bool m', .slice a' l' c'] 26)) := (HB.out.stay HR.out.2.2).stay hst2
        have q2 := cell0 hBx.hw
        have h5 := take_succ_count hjt
        have h6 := take_le (ts := ts) (j := j + 1)
        have h7 := HR.out.1
        have hseg2 : ∀ i, i < ts[j].count → L[(pre ++ ys).length + i]? = (ts[j].flat (d + 1))[i]? := fun i hi => by
          rw [← flatL_seg ts (d + 1) j hjt i hi, List.length_append, h7, show pre.length + (1 + Tr.countL (ts.take j)) + i = pre.length + (1 + Tr.countL (ts.take j) + i) by omega, HSEG.out _ (by rw [HCN.out]; omega)]
          unfold Tr.flat
          rw [show 1 + Tr.countL (ts.take j) + i = Tr.countL (ts.take j) + i + 1 by omega]
          rfl
        have IH := Lib.hid ((HK.out j hjt) C l yb wb L J Jx HJ.out HY.out (pre ++ ys) (d + 1) (nd k' s' v' m' a' l' c') _ (HJ.out _ _ _ HR.out.2.1 (hal.mono hCw)) (Nat.le_trans hCw hal.size) hBx (ROwn.keep _ hex fun b hb hSb => ⟨hst2.2 b hSb hb, hSb⟩) hseg2 (by omega) (by omega) (by simp only [List.length_append]; omega))
        have hcj : ts[j].count ≤ Tr.countL ts := by omega
        have HNX : Hid (∀ (B2 : World) (ys2 : List Told), ys2.length = ts[j].count → J (pre ++ ys ++ ys2) B2 → Stay C (wr.alloc (.cells #[.int .i64 k', .string s', .int .u32 v', .bool m', .slice a' l' c'] 26)) B2 → (ys ++ ys2).length = 1 + Tr.countL (ts.take (j + 1)) ∧ J (pre ++ (ys ++ ys2)) B2 ∧ Stay C A B2) := Lib.hid fun B2 ys2 hl hj2 hs2 => ⟨by rw [List.length_append, h7, hl, h5]; omega, by rw [← List.append_assoc]; exact hj2, HR.out.2.2.trans (hst2.trans hs2)⟩
        clear hrow hkx hkid hex hal hst2 hBx h5 h6 h7 hseg2 HR
        generalize ts[j] = t at *
        unfold nd at *
        gi_wp2
        refine ⟨trivial, rfl, IH.out.mono ?_⟩
        clear IH
        rintro e B2 (⟨rfl, ys2, hl2, hj2, hs2⟩ | ⟨rfl, ys2, hx2⟩)
        · have HN2 := Lib.hid (HNX.out B2 ys2 hl2 hj2 hs2)
          clear hl2 hj2 hs2
          gi_wp2
          go_roundw
          case rel => exact ⟨j + 1, ys ++ ys2, by simp, by omega, HN2⟩
          case measure => simp [intOf]; omega
        · gi_wp2
          go_ret
          exact .inr ⟨rfl, ys ++ ys2, by rw [← List.append_assoc]; exact hx2⟩
      · obtain rfl : j = len := by omega
        have HE : Hid (ys.length = Tr.count (.mk k s v m ts) ∧ J (pre ++ ys) wr ∧ Stay C A wr) := Lib.hid ⟨by rw [HCN.out, HR.out.1, List.take_of_length_le (by rw [HT.out]; exact Nat.le_refl _)], HR.out.2⟩
        gi_wp2
        go_ret
        exact .inl ⟨rfl, ys, HE.out⟩
  · clear hst hR hy' e0 e1 e2 e3 e4 q1 q2
    gi_wp2
    go_ret
    exact .inr ⟨rfl, _, hx1⟩
end
theorem walkT_all : ∀ (t : Tr), WalkT t
  | .mk k s v m ts => walkT_one fun j h => by
    have hd : SizeOf.sizeOf ts[j] < SizeOf.sizeOf ts := List.sizeOf_lt_of_mem (List.getElem_mem h)
    exact walkT_all ts[j]
  termination_by t => SizeOf.sizeOf t
  decreasing_by
    simp
    omega
end Go.Proofs.Ytkhbmamgfkpdbaa
