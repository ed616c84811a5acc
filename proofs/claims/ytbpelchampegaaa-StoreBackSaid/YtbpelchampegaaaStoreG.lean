/-
  Write, WriteWord, ReadWord.
-/
import Derived.Test.YtbpelchampegaaaStoreF
import Derived.Test.YtbpelchampegaaaOwnA
namespace Go.Proofs.Ytbpelchampegaaa
open Go.ChangeShapes Go.WideShapes Go.ChangeAt Go.RowKit
set_option linter.unusedVariables false
theorem or_upN (a b k s : Nat) (ha : a < 2 ^ k) (hs : s = 2 ^ k) (hb : b * s < 4294967296) (hk : a < 4294967296) : bits BinOp.or IntKind.u32 (a : Int) ((b : Int) * (s : Int)) = (a : Int) + (b : Int) * (s : Int) := by
  rw [show (b : Int) * (s : Int) = ((b * s : Nat) : Int) by simp, u32_or_nat _ _ hk hb, Nat.or_comm, hs, Nat.mul_comm, ← Nat.two_pow_add_eq_or_of_lt ha]
  simp; omega
theorem or_upI (a b : Int) (k : Nat) (s : Int) (a0 : 0 ≤ a) (ha : a < 2 ^ k) (hs : s = 2 ^ k) (b0 : 0 ≤ b) (hb : b * s < 4294967296) (hk : a < 4294967296) : bits BinOp.or IntKind.u32 a (b * s) = a + b * s := by
  obtain ⟨n, rfl⟩ := Int.eq_ofNat_of_zero_le a0
  obtain ⟨m, rfl⟩ := Int.eq_ofNat_of_zero_le b0
  have e : s = ((2 ^ k : Nat) : Int) := by rw [hs, pow_toNat]
  rw [e] at hb ⊢
  exact or_upN n m k (2 ^ k) (by rw [pow_toNat] at ha; omega) rfl (by rw [← Int.natCast_mul] at hb; omega) (by omega)
section
variable {w : World} {B p : Nat} {s : StM} {g : Nat → Tag}
theorem Rid.below {W : World} {f : Int} {i : Nat} {r : Nat × Nat} {b cap : Nat} (hR : Rid w s f i r b cap) (lb : b < w.heap.size) (hb : Below w.heap.size w W) : Rid W s f i r b cap :=
  ⟨hR.num, hR.at_, hR.row, by rw [hb.cell lb]; exact hR.c0, by rw [hb.cell lb]; exact hR.c1, by rw [hb.frozen lb]; exact hR.fz⟩
set_option maxHeartbeats 1000000 in
theorem bwrite_any (h : StoreAt w B p s g) (hBw : B ≤ w.heap.size) {f : Int} {i : Nat} {r : Nat × Nat} {b cap : Nat} (hR : Rid w s f i r b cap) {q : FileM} (hq : s.fs[r.1]? = some q) (hle : r.2 ≤ q.xs.length) (z : Int) (z0 : 0 ≤ z) (z1 : z ≤ 255) (hroom : s.used + (r.2 + 1 - q.xs.length) ≤ s.cap) (hcap : r.2 + 1 ≤ s.cap) :
    Calls Try.prog 13 #[.pointer (some ⟨p, 0, none⟩), .int .i64 f, .int .u8 z] w fun e w' => e = .returned (.int .i64 0) ∧ ∃ v g', StoreAt w' B p (s.puts i r q v [z]) g' ∧ Below B w w' := by
  have hb := below1 w (.cells #[.int .u8 z] 5)
  have lb := (h.lr b (by rw [hR.row]; rfl)).2
  have lp := h.lp
  have lq := h.lf hq
  have hrd : Rd (w.alloc (.cells #[.int .u8 z] 5)) (w.alloc (.cells #[.int .u8 z] 5)).heap.size .u8 (some ⟨w.heap.size, 0, none⟩) 1 [z] := ⟨rfl, fun _ => ⟨_, rfl, by simp, fun j hj => by
    obtain rfl : j = 0 := by omega
    rw [cell_add, World.cell?_alloc_new w _ _ _]
    rfl⟩⟩
  have hR2 : Rid (w.alloc (.cells #[.int .u8 z] 5)) s f i r b cap := ⟨hR.num, hR.at_, hR.row, by rw [hb.cell lb]; exact hR.c0, by rw [hb.cell lb]; exact hR.c1, by rw [hb.frozen lb]; exact hR.fz⟩
  have HP := Lib.hid (put_any (n := 1) (c := 1) (h.below hb) (Nat.le_trans hBw hb.size) hR2 hq hle hrd (fun x hx => by
    cases hx
    refine ⟨by simp; omega, by simp; omega, by simp; omega, fun e => ?_⟩
    have := (h.ld hq _ e.symm).2
    simp at this) (by simp; omega) (by omega) hroom hcap)
  have HB := Lib.hid (hb.mono hBw)
  clear h hR hR2 hrd hb
  go_enter Try.func13, Try.ntmps13
  go_wp2_with (go_at_call 31; (with_reducible refine HP.out.mono ?_); rintro e w' ⟨rfl, v, hp⟩)
  go_ret
  obtain ⟨g', hs⟩ := hp.st
  exact ⟨rfl, v, g', hs, HB.out.trans hp.bel⟩
set_option maxHeartbeats 1000000 in
theorem wword_any (h : StoreAt w B p s g) (hBw : B ≤ w.heap.size) {f : Int} {i : Nat} {r : Nat × Nat} {b cap : Nat} (hR : Rid w s f i r b cap) {q : FileM} (hq : s.fs[r.1]? = some q) (hle : r.2 ≤ q.xs.length) (z : Int) (z0 : 0 ≤ z) (z1 : z ≤ 4294967295) (hroom : s.used + (r.2 + 4 - q.xs.length) ≤ s.cap) (hcap : r.2 + 4 ≤ s.cap) :
    Calls Try.prog 14 #[.pointer (some ⟨p, 0, none⟩), .int .i64 f, .int .u32 z] w fun e w' => e = .returned (.int .i64 0) ∧ ∃ v g', StoreAt w' B p (s.puts i r q v (byt z)) g' ∧ Below B w w' := by
  have hb := below1 w (.cells #[.int .u32 z] 35)
  have lb := (h.lr b (by rw [hR.row]; rfl)).2
  have lp := h.lp
  have lq := h.lf hq
  have hrd : Rd (w.alloc (.cells #[.int .u32 z] 35)) (w.alloc (.cells #[.int .u32 z] 35)).heap.size .u32 (some ⟨w.heap.size, 0, none⟩) 1 [z] := ⟨rfl, fun _ => ⟨_, rfl, by simp, fun j hj => by
    obtain rfl : j = 0 := by omega
    rw [cell_add, World.cell?_alloc_new w _ _ _]
    rfl⟩⟩
  have HBY := Lib.hid (bytes_any (some ⟨w.heap.size, 0, none⟩) 1 1 [z] (w.alloc (.cells #[.int .u32 z] 35)) hrd (fun j => by unfold nth; cases j with
    | zero => simp; omega
    | succ j => simp) (by omega))
  have HS := Lib.hid h
  have HR := Lib.hid hR
  have HB := Lib.hid hb
  clear h hR hrd hb
  go_enter Try.func14, Try.ntmps14
  go_wp2_with (first
    | (go_at_call 32; (with_reducible refine HBY.out.mono ?_); rintro e w2 ⟨v, rfl, ho, hb2⟩; obtain ⟨A, c, rfl, hnc, hrd⟩ := rd_own ho; have HSEP : Hid (∀ x, A = some x → x.block ≠ p ∧ x.block ≠ b ∧ x.block ≠ q.blk ∧ some x.block ≠ q.val.ownBlock) := Lib.hid (fun x hx => by { have h1 := (ho.lt x.block (by rw [hx]; rfl)).1; simp at h1; exact ⟨by omega, by omega, by omega, fun e => by { have := (HS.out.ld hq _ e.symm).2; omega }⟩ }); have HB2 := Lib.hid (HB.out.trans (hb2.mono HB.out.size)); have HRD := Lib.hid hrd; have HO2 := Lib.hid ho; clear hb2 hrd ho)
    | (go_at_call 31; with_reducible refine (put_any (HS.out.below HB2.out) (Nat.le_trans hBw HB2.out.size) (HR.out.below lb HB2.out) hq hle HRD.out HSEP.out (bytesOf_bd _) (by omega) (by omega) (by omega)).mono ?_; rintro e w3 ⟨rfl, v, hp⟩))
  go_ret
  obtain ⟨g', hs⟩ := hp.st
  have e : bytesOf [z] = byt z := by simp [bytesOf]
  rw [e] at hs
  exact ⟨rfl, v, g', hs, (HB2.out.mono hBw).trans hp.bel⟩
def StM.at_ (s : StM) (i : Nat) (r : Nat × Nat) (n : Nat) : StM := { s with rs := s.rs.set i (r.1, n) }
theorem rid_at {W : World} {f : Int} {i : Nat} {r : Nat × Nat} {b cap n : Nat} (hn : f = (i : Int) + 1) (hi : s.rs[i]? = some r) (hrow : s.rv = .slice (some ⟨b, 0, none⟩) s.rs.length cap) (h : StoreAt W B p (s.at_ i r n) g) : Rid W (s.at_ i r n) f i (r.1, n) b cap := by
  have hl := (List.getElem?_eq_some_iff.1 hi).1
  have hi2 : (s.at_ i r n).rs[i]? = some (r.1, n) := by show (s.rs.set i _)[i]? = _; rw [List.getElem?_set_self hl]
  obtain ⟨b2, c2, hR, -, -⟩ := h.rid hi2 hn
  have e : s.rv = .slice (some ⟨b2, 0, none⟩) (s.rs.set i (r.1, n)).length c2 := hR.row
  rw [hrow] at e
  simp at e
  obtain ⟨rfl, rfl⟩ := e
  exact hR
theorem at_self {i : Nat} {r : Nat × Nat} (hi : s.rs[i]? = some r) : s.at_ i r r.2 = s := by
  unfold StM.at_
  have e2 : s.rs.set i (r.1, r.2) = s.rs := by
    have := (List.getElem?_eq_some_iff.1 hi)
    apply List.ext_getElem?
    intro j
    by_cases e : i = j
    · subst e; rw [List.getElem?_set_self this.1, hi]
    · rw [List.getElem?_set_ne e]
  rw [e2]
theorem at_next (s : StM) (i : Nat) (r : Nat × Nat) (n : Nat) : ({ s.at_ i r n with rs := (s.at_ i r n).rs.set i ((r.1, n).1, (r.1, n).2 + 1) } : StM) = s.at_ i r (n + 1) := by
  unfold StM.at_
  simp
/-- so many bytes, the lowest first -/
def leb (xs : List Int) (n : Nat) : Nat → Int
  | 0 => 0
  | j + 1 => leb xs n j + nth xs (n + j) * 256 ^ j
theorem nth_byte {xs : List Int} (h : ∀ x ∈ xs, 0 ≤ x ∧ x ≤ 255) (n : Nat) : 0 ≤ nth xs n ∧ nth xs n ≤ 255 := by
  by_cases hn : n < xs.length
  · rw [nth_eq xs n hn]; exact h _ (List.getElem_mem _)
  · rw [nth_ge xs n (by omega)]; omega
set_option maxHeartbeats 2000000 in
theorem rdword_any (h : StoreAt w B p s g) {f : Int} {i : Nat} {r : Nat × Nat} {b cap : Nat} (hR : Rid w s f i r b cap) {q : FileM} (hq : s.fs[r.1]? = some q) (hle : r.2 + 4 ≤ q.xs.length) :
    Calls Try.prog 22 #[.pointer (some ⟨p, 0, none⟩), .int .i64 f] w fun e w' => e = .returned (.int .u32 (leb q.xs r.2 4)) ∧ StoreAt w' B p (s.at_ i r (r.2 + 4)) g ∧ Below B w w' := by
  have HP : Hid (StoreAt w B p (s.at_ i r (r.2 + 0)) g ∧ Below B w w) := Lib.hid ⟨by rw [Nat.add_zero, at_self hR.at_]; exact h, Below.refl _ _⟩
  have HR := Lib.hid hR
  have HK := Lib.hid (h.ok _ q hq).2.2
  clear h hR
  go_enter Try.func22, Try.ntmps22
  go_wp2_with fail
  go_loopw [5, 7] (fun x y wr => ∃ (j : Nat), j ≤ 4 ∧ x = .int .u32 (leb q.xs r.2 j) ∧ y = .int .i64 j ∧ Hid (StoreAt wr B p (s.at_ i r (r.2 + j)) g ∧ Below B w wr)) (fun _ y _ => 4 - (intOf y).toNat)
  case atStart => exact ⟨0, by omega, rfl, rfl, HP⟩
  case round =>
    obtain ⟨j, hj, rfl, rfl, HJ⟩ := hrel
    clear HP
    by_cases hlt : j < 4
    · have hb := nth_byte HK.out (r.2 + j)
      have HC := Lib.hid (read_any HJ.out.1 (rid_at HR.out.num HR.out.at_ HR.out.row HJ.out.1) (q := q) hq (by show r.2 + j < q.xs.length; omega))
      have b0 := nth_byte HK.out (r.2 + 0)
      have b1 := nth_byte HK.out (r.2 + 1)
      have b2 := nth_byte HK.out (r.2 + 2)
      rcases (by omega : j = 0 ∨ j = 1 ∨ j = 2 ∨ j = 3) with rfl | rfl | rfl | rfl
      all_goals
        go_wp2_with (go_at_call 20; (with_reducible refine HC.out.mono ?_); rintro e w2 ⟨rfl, hs, hb2⟩; have HN := Lib.hid (And.intro hs (HJ.out.2.trans hb2)); clear hs hb2)
      · have HN2 := And.intro (Eq.mp (congrArg (fun s' => StoreAt w2 B p s' g) (at_next s i r (r.2 + 0))) HN.out.1) HN.out.2
        refine ⟨⟨1, by omega, ?_, rfl, Lib.hid HN2⟩, by simp [intOf]⟩
        have := or_upI 0 (nth q.xs (r.2 + 0)) 0 1 (by omega) (by omega) (by omega) b0.1 (by omega) (by omega)
        simp [leb] at this b0 ⊢
        rw [Int.emod_eq_of_lt (by omega) (by omega), this]
      · have HN2 := And.intro (Eq.mp (congrArg (fun s' => StoreAt w2 B p s' g) (at_next s i r (r.2 + 1))) HN.out.1) HN.out.2
        refine ⟨⟨2, by omega, ?_, rfl, Lib.hid HN2⟩, by simp [intOf]⟩
        have h1 : leb q.xs r.2 1 = nth q.xs (r.2 + 0) := by simp [leb]
        rw [or_upI (leb q.xs r.2 1) (nth q.xs (r.2 + 1)) 8 256 (by omega) (by omega) (by omega) b1.1 (by omega) (by omega)]
        simp [leb]
      · have HN2 := And.intro (Eq.mp (congrArg (fun s' => StoreAt w2 B p s' g) (at_next s i r (r.2 + 2))) HN.out.1) HN.out.2
        refine ⟨⟨3, by omega, ?_, rfl, Lib.hid HN2⟩, by simp [intOf]⟩
        have h1 : leb q.xs r.2 2 = nth q.xs (r.2 + 0) + nth q.xs (r.2 + 1) * 256 := by simp [leb]
        rw [or_upI (leb q.xs r.2 2) (nth q.xs (r.2 + 2)) 16 65536 (by omega) (by omega) (by omega) b2.1 (by omega) (by omega)]
        simp [leb]
      · have HN2 := And.intro (Eq.mp (congrArg (fun s' => StoreAt w2 B p s' g) (at_next s i r (r.2 + 3))) HN.out.1) HN.out.2
        refine ⟨⟨4, by omega, ?_, rfl, Lib.hid HN2⟩, by simp [intOf]⟩
        have h1 : leb q.xs r.2 3 = nth q.xs (r.2 + 0) + nth q.xs (r.2 + 1) * 256 + nth q.xs (r.2 + 2) * 65536 := by simp [leb]
        rw [or_upI (leb q.xs r.2 3) (nth q.xs (r.2 + 3)) 24 16777216 (by omega) (by omega) (by omega) hb.1 (by omega) (by omega)]
        simp [leb]
    · obtain rfl : j = 4 := by omega
      go_wp2_with fail
      go_ret
      exact ⟨rfl, HJ.out⟩
end
end Go.Proofs.Ytbpelchampegaaa
