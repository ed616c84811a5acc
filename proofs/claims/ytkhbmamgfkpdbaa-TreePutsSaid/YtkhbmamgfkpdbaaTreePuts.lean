/-
  TreePuts: an expression in parentheses for a factor, statements for statements, in any tree that may be, make one that may be; of any three nodes of at most 300. No condition.
-/
import Derived.Test.YtkhbmamgfkpdbaaTreeNJ
import Derived.Test.YtkhbmamgfkpdbaaTreeME
import Derived.Test.YtkhbmamgfkpdbaaTreeI
import Derived.Test.YtkhbmamgfkpdbaaEvD

import Derived.Test.YtkhbmamgfkpdbaaRows
import Derived.WalkKit
import Derived.ProofKit
import Derived.OpenShut
import Derived.Deep.DeepHandedRow
import Derived.Carry
namespace Go.Proofs.Ytkhbmamgfkpdbaa.treePuts
open Go.ChangeShapes Go.WideShapes Go.ChangeAt Go.RowKit
open Go.ChangeMaps (open_string shut_string)
set_option linter.unusedVariables false
/-- the law's boxes -/
structure Pre3 (w : World) (k : Int) (s : ByteArray) (v : Int) (m : Bool) (a : Option Addr) (l c : Nat) (k2 : Int) (s2 : ByteArray) (v2 : Int) (m2 : Bool) (a2 : Option Addr) (l2 c2 : Nat) (k3 : Int) (s3 : ByteArray) (v3 : Int) (m3 : Bool) (a3 : Option Addr) (l3 c3 : Nat) (W : World) : Prop where
  o1 : CellsB W w.heap.size k s v m a l c
  o2 : CellsB W (w.heap.size + 1) k2 s2 v2 m2 a2 l2 c2
  o3 : CellsB W (w.heap.size + 2) k3 s3 v3 m3 a3 l3 c3
  bel : Below w.heap.size w W
section
variable {w : World} {k : Int} {s : ByteArray} {v : Int} {m : Bool} {a : Option Addr} {l c : Nat} {k2 : Int} {s2 : ByteArray} {v2 : Int} {m2 : Bool} {a2 : Option Addr} {l2 c2 : Nat} {k3 : Int} {s3 : ByteArray} {v3 : Int} {m3 : Bool} {a3 : Option Addr} {l3 c3 : Nat} {W W' : World}
theorem Pre3.next (h : Pre3 w k s v m a l c k2 s2 v2 m2 a2 l2 c2 k3 s3 v3 m3 a3 l3 c3 W) (hb : Below W.heap.size W W') : Pre3 w k s v m a l c k2 s2 v2 m2 a2 l2 c2 k3 s3 v3 m3 a3 l3 c3 W' :=
  ⟨h.o1.next hb, h.o2.next hb, h.o3.next hb, h.bel.trans (hb.mono h.bel.size)⟩
end
theorem Pre3.start (w : World) (k : Int) (s : ByteArray) (v : Int) (m : Bool) (a : Option Addr) (l c : Nat) (k2 : Int) (s2 : ByteArray) (v2 : Int) (m2 : Bool) (a2 : Option Addr) (l2 c2 : Nat) (k3 : Int) (s3 : ByteArray) (v3 : Int) (m3 : Bool) (a3 : Option Addr) (l3 c3 : Nat) :
    Pre3 w k s v m a l c k2 s2 v2 m2 a2 l2 c2 k3 s3 v3 m3 a3 l3 c3 (((w.alloc (.cells #[.int .i64 k, .string s, .int .u32 v, .bool m, .slice a l c] 26)).alloc (.cells #[.int .i64 k2, .string s2, .int .u32 v2, .bool m2, .slice a2 l2 c2] 26)).alloc (.cells #[.int .i64 k3, .string s3, .int .u32 v3, .bool m3, .slice a3 l3 c3] 26)) :=
  ⟨((CellsB.new w k s v m a l c 26 rfl).next (below1 _ _)).next (below1 _ _), (CellsB.new (w.alloc (.cells #[.int .i64 k, .string s, .int .u32 v, .bool m, .slice a l c] 26)) k2 s2 v2 m2 a2 l2 c2 26 (b := w.heap.size + 1) (by simp)).next (below1 _ _), CellsB.new ((w.alloc (.cells #[.int .i64 k, .string s, .int .u32 v, .bool m, .slice a l c] 26)).alloc (.cells #[.int .i64 k2, .string s2, .int .u32 v2, .bool m2, .slice a2 l2 c2] 26)) k3 s3 v3 m3 a3 l3 c3 26 (b := w.heap.size + 2) (by simp), ((below1 w _).alloc (by simp) _).alloc (by simp; omega) _⟩
theorem paren_lev {t : Tr} (h : t.sm.exp = true) : (Tr.mk 32 ⟨#[]⟩ 0 false [t]).sm.lev = 0 := by
  show levI 32 ⟨#[]⟩ 0 false 1 (Tr.smL [t]) = 0
  have hf : facF 32 ⟨#[]⟩ 0 false 1 (Tr.smL [t]) = true := by
    unfold facF
    rw [if_neg (by omega), if_neg (by omega), if_neg (by omega), if_neg (by omega), if_neg (by omega), if_neg (by omega), if_neg (by omega), if_neg (by omega), if_neg (by omega), if_pos rfl]
    have e : Tr.smL [t] 0 = t.sm := by simp [Tr.smL]
    rw [e, h, Bool.and_true]
    have h0 : emB ⟨#[]⟩ = true := by
      unfold emB
      rw [ByteArray.toList_eq]
      rfl
    unfold baB shB
    rw [h0]
    rfl
  unfold levI
  rw [if_neg (by omega), if_neg (by omega), if_pos hf]
theorem paren_reads {V : World} {g : Nat} {t : Tr} {k : Int} {s : ByteArray} {v : Int} {m : Bool} {a : Option Addr} {l c : Nat} (hg : g < V.heap.size) (h : Has V g k s v m a l c) (hr : Reads V t (nd k s v m a l c)) : Reads V (.mk 32 ⟨#[]⟩ 0 false [t]) (nd 32 ⟨#[]⟩ 0 false (some ⟨g, 0, none⟩) 1 1) := by
  unfold Reads
  refine ⟨_, 1, 1, rfl, by unfold maxLen; decide, by rfl, by rfl, rfl, Nat.le_refl _, by unfold maxLen; decide, fun _ => ⟨_, rfl, hg, ?_⟩⟩
  unfold ReadsL
  refine ⟨⟨k, s, v, m, a, l, c, ⟨h.h0, h.h1, h.h2, h.h3, h.h4⟩, hr⟩, ?_⟩
  unfold ReadsL
  trivial
set_option maxHeartbeats 4000000 in
set_option maxRecDepth 100000 in
theorem walk (va : Value) (na : Nat) (vb : Value) (nb : Nat) (vc : Value) (nc : Nat) (at_ : Int) (w : World) (wa : At w na va) (wb : At w nb vb) (wc : At w nc vc) (wl : (Lit.int .i64 at_).wf = true) : Calls Try.prog 7 #[va, vb, vc, .int .i64 at_] w fun e w' => e = .returned (.bool true) ∧ Below w.heap.size w w' := by
  obtain ⟨t, ht⟩ := reads_of na va wa
  obtain ⟨t2, ht2⟩ := reads_of nb vb wb
  obtain ⟨t3, ht3⟩ := reads_of nc vc wc
  obtain ⟨k, s, v, m, a, l, c, rfl⟩ := nd_of ht
  obtain ⟨k2, s2, v2, m2, a2, l2, c2, rfl⟩ := nd_of ht2
  obtain ⟨k3, s3, v3, m3, a3, l3, z3, rfl⟩ := nd_of ht3
  clear wa wb wc
  have HR := Lib.hid ht
  have HR2 := Lib.hid ht2
  have HR3 := Lib.hid ht3
  have hb1 := bigT_all t _ ht
  have hb2 := bigT_all t2 _ ht2
  have hb3 := bigT_all t3 _ ht3
  unfold BigT at hb1 hb2 hb3
  have HB1 := Lib.hid hb1
  have HB2 := Lib.hid hb2
  have HB3 := Lib.hid hb3
  have hm := may_all t _ ht
  unfold MayT at hm
  have hok2 := sm_all t2 _ _ _ _ _ _ _ ht2
  have hok3 := sm_all t3 _ _ _ _ _ _ _ ht3
  have he := hok2.exp
  unfold Ex at he
  have hs := hok3.stms
  unfold Sms at hs
  have HO := Lib.hid (Pre3.start w k s v m a l c k2 s2 v2 m2 a2 l2 c2 k3 s3 v3 m3 a3 l3 z3)
  clear ht ht2 ht3 hb1 hb2 hb3 hok2 hok3
  unfold nd at *
  obtain ⟨⟨c0, c1, c2', c3, c4, -⟩, ⟨d0, d1, d2, d3, d4, -⟩, ⟨h0, h1, h2, h3, h4, -⟩, -⟩ := HO.out
  by_cases g1 : t.big 300 < 0
  · have HM := Lib.hid hm
    have HE := Lib.hid he
    have HS := Lib.hid hs
    clear hm he hs
    go_enter Try.func7, Try.ntmps7
    go_wp2_with (first
    | (go_at_call 25; (first | (with_reducible refine (HB1.out _ HO.out.bel 300 (by omega) (by omega)).mono ?_) | (with_reducible refine (HB2.out _ HO.out.bel 300 (by omega) (by omega)).mono ?_) | (with_reducible refine (HB3.out _ HO.out.bel 300 (by omega) (by omega)).mono ?_)); rintro e w1 ⟨rfl, hb1⟩; replace HO := Lib.hid (HO.out.next hb1); clear c0 c1 c2' c3 c4 d0 d1 d2 d3 d4 h0 h1 h2 h3 h4; obtain ⟨⟨c0, c1, c2', c3, c4, -⟩, ⟨d0, d1, d2, d3, d4, -⟩, ⟨h0, h1, h2, h3, h4, -⟩, -⟩ := HO.out; clear hb1)
    | (go_at_call 19; (with_reducible refine (HM.out _ HO.out.bel).mono ?_); rintro e w1 ⟨rfl, hb1⟩; replace HO := Lib.hid (HO.out.next hb1); clear c0 c1 c2' c3 c4 d0 d1 d2 d3 d4 h0 h1 h2 h3 h4; obtain ⟨⟨c0, c1, c2', c3, c4, -⟩, ⟨d0, d1, d2, d3, d4, -⟩, ⟨h0, h1, h2, h3, h4, -⟩, -⟩ := HO.out; clear hb1)
    | (go_at_call 21; (with_reducible refine (HE.out _ HO.out.bel).mono ?_); rintro e w1 ⟨rfl, hb1⟩; replace HO := Lib.hid (HO.out.next hb1); clear c0 c1 c2' c3 c4 d0 d1 d2 d3 d4 h0 h1 h2 h3 h4; obtain ⟨⟨c0, c1, c2', c3, c4, -⟩, ⟨d0, d1, d2, d3, d4, -⟩, ⟨h0, h1, h2, h3, h4, -⟩, -⟩ := HO.out; clear hb1)
    | (go_at_call 22; (with_reducible refine (HS.out _ HO.out.bel).mono ?_); rintro e w1 ⟨rfl, hb1⟩; replace HO := Lib.hid (HO.out.next hb1); clear c0 c1 c2' c3 c4 d0 d1 d2 d3 d4 h0 h1 h2 h3 h4; obtain ⟨⟨c0, c1, c2', c3, c4, -⟩, ⟨d0, d1, d2, d3, d4, -⟩, ⟨h0, h1, h2, h3, h4, -⟩, -⟩ := HO.out; clear hb1)
    | (go_at_call 9; refine (known15_any _).mono ?_; rintro e w1 ⟨rfl, hb1⟩; replace HO := Lib.hid (HO.out.next hb1); clear hb1))
    go_ret
    exact ⟨rfl, HO.out.bel⟩
  by_cases g2 : t2.big 300 < 0
  · have HM := Lib.hid hm
    have HE := Lib.hid he
    have HS := Lib.hid hs
    clear hm he hs
    go_enter Try.func7, Try.ntmps7
    go_wp2_with (first
    | (go_at_call 25; (first | (with_reducible refine (HB1.out _ HO.out.bel 300 (by omega) (by omega)).mono ?_) | (with_reducible refine (HB2.out _ HO.out.bel 300 (by omega) (by omega)).mono ?_) | (with_reducible refine (HB3.out _ HO.out.bel 300 (by omega) (by omega)).mono ?_)); rintro e w1 ⟨rfl, hb1⟩; replace HO := Lib.hid (HO.out.next hb1); clear c0 c1 c2' c3 c4 d0 d1 d2 d3 d4 h0 h1 h2 h3 h4; obtain ⟨⟨c0, c1, c2', c3, c4, -⟩, ⟨d0, d1, d2, d3, d4, -⟩, ⟨h0, h1, h2, h3, h4, -⟩, -⟩ := HO.out; clear hb1)
    | (go_at_call 19; (with_reducible refine (HM.out _ HO.out.bel).mono ?_); rintro e w1 ⟨rfl, hb1⟩; replace HO := Lib.hid (HO.out.next hb1); clear c0 c1 c2' c3 c4 d0 d1 d2 d3 d4 h0 h1 h2 h3 h4; obtain ⟨⟨c0, c1, c2', c3, c4, -⟩, ⟨d0, d1, d2, d3, d4, -⟩, ⟨h0, h1, h2, h3, h4, -⟩, -⟩ := HO.out; clear hb1)
    | (go_at_call 21; (with_reducible refine (HE.out _ HO.out.bel).mono ?_); rintro e w1 ⟨rfl, hb1⟩; replace HO := Lib.hid (HO.out.next hb1); clear c0 c1 c2' c3 c4 d0 d1 d2 d3 d4 h0 h1 h2 h3 h4; obtain ⟨⟨c0, c1, c2', c3, c4, -⟩, ⟨d0, d1, d2, d3, d4, -⟩, ⟨h0, h1, h2, h3, h4, -⟩, -⟩ := HO.out; clear hb1)
    | (go_at_call 22; (with_reducible refine (HS.out _ HO.out.bel).mono ?_); rintro e w1 ⟨rfl, hb1⟩; replace HO := Lib.hid (HO.out.next hb1); clear c0 c1 c2' c3 c4 d0 d1 d2 d3 d4 h0 h1 h2 h3 h4; obtain ⟨⟨c0, c1, c2', c3, c4, -⟩, ⟨d0, d1, d2, d3, d4, -⟩, ⟨h0, h1, h2, h3, h4, -⟩, -⟩ := HO.out; clear hb1)
    | (go_at_call 9; refine (known15_any _).mono ?_; rintro e w1 ⟨rfl, hb1⟩; replace HO := Lib.hid (HO.out.next hb1); clear hb1))
    go_ret
    exact ⟨rfl, HO.out.bel⟩
  by_cases g3 : t3.big 300 < 0
  · have HM := Lib.hid hm
    have HE := Lib.hid he
    have HS := Lib.hid hs
    clear hm he hs
    go_enter Try.func7, Try.ntmps7
    go_wp2_with (first
    | (go_at_call 25; (first | (with_reducible refine (HB1.out _ HO.out.bel 300 (by omega) (by omega)).mono ?_) | (with_reducible refine (HB2.out _ HO.out.bel 300 (by omega) (by omega)).mono ?_) | (with_reducible refine (HB3.out _ HO.out.bel 300 (by omega) (by omega)).mono ?_)); rintro e w1 ⟨rfl, hb1⟩; replace HO := Lib.hid (HO.out.next hb1); clear c0 c1 c2' c3 c4 d0 d1 d2 d3 d4 h0 h1 h2 h3 h4; obtain ⟨⟨c0, c1, c2', c3, c4, -⟩, ⟨d0, d1, d2, d3, d4, -⟩, ⟨h0, h1, h2, h3, h4, -⟩, -⟩ := HO.out; clear hb1)
    | (go_at_call 19; (with_reducible refine (HM.out _ HO.out.bel).mono ?_); rintro e w1 ⟨rfl, hb1⟩; replace HO := Lib.hid (HO.out.next hb1); clear c0 c1 c2' c3 c4 d0 d1 d2 d3 d4 h0 h1 h2 h3 h4; obtain ⟨⟨c0, c1, c2', c3, c4, -⟩, ⟨d0, d1, d2, d3, d4, -⟩, ⟨h0, h1, h2, h3, h4, -⟩, -⟩ := HO.out; clear hb1)
    | (go_at_call 21; (with_reducible refine (HE.out _ HO.out.bel).mono ?_); rintro e w1 ⟨rfl, hb1⟩; replace HO := Lib.hid (HO.out.next hb1); clear c0 c1 c2' c3 c4 d0 d1 d2 d3 d4 h0 h1 h2 h3 h4; obtain ⟨⟨c0, c1, c2', c3, c4, -⟩, ⟨d0, d1, d2, d3, d4, -⟩, ⟨h0, h1, h2, h3, h4, -⟩, -⟩ := HO.out; clear hb1)
    | (go_at_call 22; (with_reducible refine (HS.out _ HO.out.bel).mono ?_); rintro e w1 ⟨rfl, hb1⟩; replace HO := Lib.hid (HO.out.next hb1); clear c0 c1 c2' c3 c4 d0 d1 d2 d3 d4 h0 h1 h2 h3 h4; obtain ⟨⟨c0, c1, c2', c3, c4, -⟩, ⟨d0, d1, d2, d3, d4, -⟩, ⟨h0, h1, h2, h3, h4, -⟩, -⟩ := HO.out; clear hb1)
    | (go_at_call 9; refine (known15_any _).mono ?_; rintro e w1 ⟨rfl, hb1⟩; replace HO := Lib.hid (HO.out.next hb1); clear hb1))
    go_ret
    exact ⟨rfl, HO.out.bel⟩
  cases hmay : t.may with
  | false =>
    rw [hmay] at hm
    have HM := Lib.hid hm
    have HE := Lib.hid he
    have HS := Lib.hid hs
    clear hm he hs
    go_enter Try.func7, Try.ntmps7
    go_wp2_with (first
    | (go_at_call 25; (first | (with_reducible refine (HB1.out _ HO.out.bel 300 (by omega) (by omega)).mono ?_) | (with_reducible refine (HB2.out _ HO.out.bel 300 (by omega) (by omega)).mono ?_) | (with_reducible refine (HB3.out _ HO.out.bel 300 (by omega) (by omega)).mono ?_)); rintro e w1 ⟨rfl, hb1⟩; replace HO := Lib.hid (HO.out.next hb1); clear c0 c1 c2' c3 c4 d0 d1 d2 d3 d4 h0 h1 h2 h3 h4; obtain ⟨⟨c0, c1, c2', c3, c4, -⟩, ⟨d0, d1, d2, d3, d4, -⟩, ⟨h0, h1, h2, h3, h4, -⟩, -⟩ := HO.out; clear hb1)
    | (go_at_call 19; (with_reducible refine (HM.out _ HO.out.bel).mono ?_); rintro e w1 ⟨rfl, hb1⟩; replace HO := Lib.hid (HO.out.next hb1); clear c0 c1 c2' c3 c4 d0 d1 d2 d3 d4 h0 h1 h2 h3 h4; obtain ⟨⟨c0, c1, c2', c3, c4, -⟩, ⟨d0, d1, d2, d3, d4, -⟩, ⟨h0, h1, h2, h3, h4, -⟩, -⟩ := HO.out; clear hb1)
    | (go_at_call 21; (with_reducible refine (HE.out _ HO.out.bel).mono ?_); rintro e w1 ⟨rfl, hb1⟩; replace HO := Lib.hid (HO.out.next hb1); clear c0 c1 c2' c3 c4 d0 d1 d2 d3 d4 h0 h1 h2 h3 h4; obtain ⟨⟨c0, c1, c2', c3, c4, -⟩, ⟨d0, d1, d2, d3, d4, -⟩, ⟨h0, h1, h2, h3, h4, -⟩, -⟩ := HO.out; clear hb1)
    | (go_at_call 22; (with_reducible refine (HS.out _ HO.out.bel).mono ?_); rintro e w1 ⟨rfl, hb1⟩; replace HO := Lib.hid (HO.out.next hb1); clear c0 c1 c2' c3 c4 d0 d1 d2 d3 d4 h0 h1 h2 h3 h4; obtain ⟨⟨c0, c1, c2', c3, c4, -⟩, ⟨d0, d1, d2, d3, d4, -⟩, ⟨h0, h1, h2, h3, h4, -⟩, -⟩ := HO.out; clear hb1)
    | (go_at_call 9; refine (known15_any _).mono ?_; rintro e w1 ⟨rfl, hb1⟩; replace HO := Lib.hid (HO.out.next hb1); clear hb1))
    go_ret
    exact ⟨rfl, HO.out.bel⟩
  | true =>
    rw [hmay] at hm
    have HM := Lib.hid hm
    clear hm
    cases hexp : t2.sm.exp with
    | false =>
      rw [hexp] at he
      have HE := Lib.hid he
      have HS := Lib.hid hs
      clear he hs
      go_enter Try.func7, Try.ntmps7
      go_wp2_with (first
    | (go_at_call 25; (first | (with_reducible refine (HB1.out _ HO.out.bel 300 (by omega) (by omega)).mono ?_) | (with_reducible refine (HB2.out _ HO.out.bel 300 (by omega) (by omega)).mono ?_) | (with_reducible refine (HB3.out _ HO.out.bel 300 (by omega) (by omega)).mono ?_)); rintro e w1 ⟨rfl, hb1⟩; replace HO := Lib.hid (HO.out.next hb1); clear c0 c1 c2' c3 c4 d0 d1 d2 d3 d4 h0 h1 h2 h3 h4; obtain ⟨⟨c0, c1, c2', c3, c4, -⟩, ⟨d0, d1, d2, d3, d4, -⟩, ⟨h0, h1, h2, h3, h4, -⟩, -⟩ := HO.out; clear hb1)
    | (go_at_call 19; (with_reducible refine (HM.out _ HO.out.bel).mono ?_); rintro e w1 ⟨rfl, hb1⟩; replace HO := Lib.hid (HO.out.next hb1); clear c0 c1 c2' c3 c4 d0 d1 d2 d3 d4 h0 h1 h2 h3 h4; obtain ⟨⟨c0, c1, c2', c3, c4, -⟩, ⟨d0, d1, d2, d3, d4, -⟩, ⟨h0, h1, h2, h3, h4, -⟩, -⟩ := HO.out; clear hb1)
    | (go_at_call 21; (with_reducible refine (HE.out _ HO.out.bel).mono ?_); rintro e w1 ⟨rfl, hb1⟩; replace HO := Lib.hid (HO.out.next hb1); clear c0 c1 c2' c3 c4 d0 d1 d2 d3 d4 h0 h1 h2 h3 h4; obtain ⟨⟨c0, c1, c2', c3, c4, -⟩, ⟨d0, d1, d2, d3, d4, -⟩, ⟨h0, h1, h2, h3, h4, -⟩, -⟩ := HO.out; clear hb1)
    | (go_at_call 22; (with_reducible refine (HS.out _ HO.out.bel).mono ?_); rintro e w1 ⟨rfl, hb1⟩; replace HO := Lib.hid (HO.out.next hb1); clear c0 c1 c2' c3 c4 d0 d1 d2 d3 d4 h0 h1 h2 h3 h4; obtain ⟨⟨c0, c1, c2', c3, c4, -⟩, ⟨d0, d1, d2, d3, d4, -⟩, ⟨h0, h1, h2, h3, h4, -⟩, -⟩ := HO.out; clear hb1)
    | (go_at_call 9; refine (known15_any _).mono ?_; rintro e w1 ⟨rfl, hb1⟩; replace HO := Lib.hid (HO.out.next hb1); clear hb1))
      go_ret
      exact ⟨rfl, HO.out.bel⟩
    | true =>
      rw [hexp] at he
      have HE := Lib.hid he
      clear he
      cases hstm : t3.sm.stms with
      | false =>
        rw [hstm] at hs
        have HS := Lib.hid hs
        clear hs
        go_enter Try.func7, Try.ntmps7
        go_wp2_with (first
    | (go_at_call 25; (first | (with_reducible refine (HB1.out _ HO.out.bel 300 (by omega) (by omega)).mono ?_) | (with_reducible refine (HB2.out _ HO.out.bel 300 (by omega) (by omega)).mono ?_) | (with_reducible refine (HB3.out _ HO.out.bel 300 (by omega) (by omega)).mono ?_)); rintro e w1 ⟨rfl, hb1⟩; replace HO := Lib.hid (HO.out.next hb1); clear c0 c1 c2' c3 c4 d0 d1 d2 d3 d4 h0 h1 h2 h3 h4; obtain ⟨⟨c0, c1, c2', c3, c4, -⟩, ⟨d0, d1, d2, d3, d4, -⟩, ⟨h0, h1, h2, h3, h4, -⟩, -⟩ := HO.out; clear hb1)
    | (go_at_call 19; (with_reducible refine (HM.out _ HO.out.bel).mono ?_); rintro e w1 ⟨rfl, hb1⟩; replace HO := Lib.hid (HO.out.next hb1); clear c0 c1 c2' c3 c4 d0 d1 d2 d3 d4 h0 h1 h2 h3 h4; obtain ⟨⟨c0, c1, c2', c3, c4, -⟩, ⟨d0, d1, d2, d3, d4, -⟩, ⟨h0, h1, h2, h3, h4, -⟩, -⟩ := HO.out; clear hb1)
    | (go_at_call 21; (with_reducible refine (HE.out _ HO.out.bel).mono ?_); rintro e w1 ⟨rfl, hb1⟩; replace HO := Lib.hid (HO.out.next hb1); clear c0 c1 c2' c3 c4 d0 d1 d2 d3 d4 h0 h1 h2 h3 h4; obtain ⟨⟨c0, c1, c2', c3, c4, -⟩, ⟨d0, d1, d2, d3, d4, -⟩, ⟨h0, h1, h2, h3, h4, -⟩, -⟩ := HO.out; clear hb1)
    | (go_at_call 22; (with_reducible refine (HS.out _ HO.out.bel).mono ?_); rintro e w1 ⟨rfl, hb1⟩; replace HO := Lib.hid (HO.out.next hb1); clear c0 c1 c2' c3 c4 d0 d1 d2 d3 d4 h0 h1 h2 h3 h4; obtain ⟨⟨c0, c1, c2', c3, c4, -⟩, ⟨d0, d1, d2, d3, d4, -⟩, ⟨h0, h1, h2, h3, h4, -⟩, -⟩ := HO.out; clear hb1)
    | (go_at_call 9; refine (known15_any _).mono ?_; rintro e w1 ⟨rfl, hb1⟩; replace HO := Lib.hid (HO.out.next hb1); clear hb1))
        go_ret
        exact ⟨rfl, HO.out.bel⟩
      | true =>
        rw [hstm] at hs
        have HS := Lib.hid hs
        clear hs
        have hcount : t.count ≤ 300 := by have := count_le t 300 (by omega); omega
        have HCP := Lib.hid (copyT_all t _ HR.out)
        go_enter Try.func7, Try.ntmps7
        go_wp2_with (first
    | (go_at_call 25; (first | (with_reducible refine (HB1.out _ HO.out.bel 300 (by omega) (by omega)).mono ?_) | (with_reducible refine (HB2.out _ HO.out.bel 300 (by omega) (by omega)).mono ?_) | (with_reducible refine (HB3.out _ HO.out.bel 300 (by omega) (by omega)).mono ?_)); rintro e w1 ⟨rfl, hb1⟩; replace HO := Lib.hid (HO.out.next hb1); clear c0 c1 c2' c3 c4 d0 d1 d2 d3 d4 h0 h1 h2 h3 h4; obtain ⟨⟨c0, c1, c2', c3, c4, -⟩, ⟨d0, d1, d2, d3, d4, -⟩, ⟨h0, h1, h2, h3, h4, -⟩, -⟩ := HO.out; clear hb1)
    | (go_at_call 19; (with_reducible refine (HM.out _ HO.out.bel).mono ?_); rintro e w1 ⟨rfl, hb1⟩; replace HO := Lib.hid (HO.out.next hb1); clear c0 c1 c2' c3 c4 d0 d1 d2 d3 d4 h0 h1 h2 h3 h4; obtain ⟨⟨c0, c1, c2', c3, c4, -⟩, ⟨d0, d1, d2, d3, d4, -⟩, ⟨h0, h1, h2, h3, h4, -⟩, -⟩ := HO.out; clear hb1)
    | (go_at_call 21; (with_reducible refine (HE.out _ HO.out.bel).mono ?_); rintro e w1 ⟨rfl, hb1⟩; replace HO := Lib.hid (HO.out.next hb1); clear c0 c1 c2' c3 c4 d0 d1 d2 d3 d4 h0 h1 h2 h3 h4; obtain ⟨⟨c0, c1, c2', c3, c4, -⟩, ⟨d0, d1, d2, d3, d4, -⟩, ⟨h0, h1, h2, h3, h4, -⟩, -⟩ := HO.out; clear hb1)
    | (go_at_call 22; (with_reducible refine (HS.out _ HO.out.bel).mono ?_); rintro e w1 ⟨rfl, hb1⟩; replace HO := Lib.hid (HO.out.next hb1); clear c0 c1 c2' c3 c4 d0 d1 d2 d3 d4 h0 h1 h2 h3 h4; obtain ⟨⟨c0, c1, c2', c3, c4, -⟩, ⟨d0, d1, d2, d3, d4, -⟩, ⟨h0, h1, h2, h3, h4, -⟩, -⟩ := HO.out; clear hb1)
    | (go_at_call 9; refine (known15_any _).mono ?_; rintro e w1 ⟨rfl, hb1⟩; replace HO := Lib.hid (HO.out.next hb1); clear hb1))
        have hw1 := HO.out.bel.size
        (with_reducible refine (CopyT.call HCP.out HO.out.bel (by omega)).mono ?_)
        rintro e w2 ⟨kc, sc, vc, mc, ac, lc, cc, rfl, hb2, hro⟩
        have h12 := hb2.size
        have HRO : Hid (ROwn ((w2.alloc (.cells #[.int .i64 kc, .string sc, .int .u32 vc, .bool mc, .slice ac lc cc] 26)).alloc (.cells #[.int .i64 k2, .string s2, .int .u32 v2, .bool m2, .slice a2 l2 c2] 26)) (fun b => w1.heap.size ≤ b ∧ b < w2.heap.size) t (nd kc sc vc mc ac lc cc)) := Lib.hid (ROwn.keep t hro fun b hb hS => ⟨by rw [Below.heap_alloc _ _ _ (by simp; omega), Below.heap_alloc _ _ _ (by omega)], hS, hb⟩)
        replace HO := Lib.hid ((HO.out.next hb2).next (below1 w2 (.cells #[.int .i64 kc, .string sc, .int .u32 vc, .bool mc, .slice ac lc cc] 26)))
        have HC := Lib.hid (CellsB.new w2 kc sc vc mc ac lc cc 26 rfl)
        clear c0 c1 c2' c3 c4 d0 d1 d2 d3 d4 h0 h1 h2 h3 h4 hb2 hro
        obtain ⟨⟨c0, c1, c2', c3, c4, -⟩, ⟨d0, d1, d2, d3, d4, -⟩, ⟨h0, h1, h2, h3, h4, -⟩, -⟩ := HO.out
        replace HO := Lib.hid (HO.out.next (below1 _ (.cells #[.int .i64 k2, .string s2, .int .u32 v2, .bool m2, .slice a2 l2 c2] 26)))
        obtain ⟨⟨j0, j1, j2, j3, j4, -⟩, ⟨i0, i1, i2, i3, i4, -⟩, ⟨n0, n1, n2, n3, n4, -⟩, -⟩ := HO.out
        unfold nd at *
        simp only []
        go_at_K
        go_wp2_with fail
        have hat : -9223372036854775808 ≤ at_ ∧ at_ ≤ 9223372036854775807 := by
          have h : (decide ((-9223372036854775808 : Int) ≤ at_) && decide (at_ ≤ 9223372036854775807)) = true := wl
          simpa using h
        have HCC := HC.out.next (below1 _ (.cells #[.int .i64 k2, .string s2, .int .u32 v2, .bool m2, .slice a2 l2 c2] 26))
        have hE := Has.start (w2.alloc (.cells #[.int .i64 kc, .string sc, .int .u32 vc, .bool mc, .slice ac lc cc] 26)) k2 s2 v2 m2 a2 l2 c2
        rw [show (w2.alloc (.cells #[.int .i64 kc, .string sc, .int .u32 vc, .bool mc, .slice ac lc cc] 26)).heap.size = w2.heap.size + 1 by simp] at hE
        have hV4 : ((w2.alloc (.cells #[.int .i64 kc, .string sc, .int .u32 vc, .bool mc, .slice ac lc cc] 26)).alloc (.cells #[.int .i64 k2, .string s2, .int .u32 v2, .bool m2, .slice a2 l2 c2] 26)).heap.size = w2.heap.size + 2 := by simp
        have hlow : ∀ V, Aside (fun b => w1.heap.size ≤ b ∧ b < w2.heap.size) ((w2.alloc (.cells #[.int .i64 kc, .string sc, .int .u32 vc, .bool mc, .slice ac lc cc] 26)).alloc (.cells #[.int .i64 k2, .string s2, .int .u32 v2, .bool m2, .slice a2 l2 c2] 26)) V → Below w.heap.size w V := fun V hA => HO.out.bel.trans ⟨hA.os, hA.tape, hA.output, hA.size, fun c hc => hA.block c (by omega) fun h => by have := h.1; omega⟩
        have HSW := Lib.hid (swapT_all t ((w2.alloc (.cells #[.int .i64 kc, .string sc, .int .u32 vc, .bool mc, .slice ac lc cc] 26)).alloc (.cells #[.int .i64 k2, .string s2, .int .u32 v2, .bool m2, .slice a2 l2 c2] 26)) (fun b => w1.heap.size ≤ b ∧ b < w2.heap.size) w2.heap.size 0 kc sc vc mc ac lc cc at_ (.mk 32 ⟨#[]⟩ 0 false [t2]) t3 32 ⟨#[]⟩ 0 false (some ⟨w2.heap.size + 1, 0, none⟩) 1 1 k3 s3 v3 m3 a3 l3 z3 hat.1 hat.2 (fun b hb => by have := hb.2; omega) ⟨HCC.e0, HCC.e1, HCC.e2, HCC.e3, HCC.e4⟩ (fun h => by have := h.2; omega) HRO.out (by omega)
          (fun V hA => paren_reads (by have := hA.size; omega) (hE.same (hA.block _ (by omega) fun h => by have := h.2; omega)) (reads_below (hlow V hA) _ _ HR2.out)) (paren_lev hexp) (fun V hA => reads_below (hlow V hA) _ _ HR3.out) hstm)
        have HKJ : Hid (KidJ ((w2.alloc (.cells #[.int .i64 kc, .string sc, .int .u32 vc, .bool mc, .slice ac lc cc] 26)).alloc (.cells #[.int .i64 k2, .string s2, .int .u32 v2, .bool m2, .slice a2 l2 c2] 26)) ⟨w2.heap.size, 0, none⟩ kc sc vc mc ac lc cc) := Lib.hid ⟨HCC.e0, HCC.e1, HCC.e2, HCC.e3, HCC.e4⟩
        have HLW := Lib.hid hlow
        clear hlow hE HCC
        unfold nd at *
        (with_reducible refine HSW.out.mono ?_)
        rintro e w5 ⟨r, rfl, -, -, hA, ⟨u, hkn, hru⟩, -⟩
        obtain ⟨y0, y1, y2, y3, y4⟩ := hA.kidj (fun h => by have := h.2; simp at this) HKJ.out
        simp only at y0 y1 y2 y3 y4
        have hm5 := may_all u _ hru
        rw [hkn.may hmay] at hm5
        have HM5 := Lib.hid hm5
        have HB5 := Lib.hid (HLW.out _ hA)
        clear hA hkn hru hm5 c0 c1 c2' c3 c4 d0 d1 d2 d3 d4 h0 h1 h2 h3 h4 j0 j1 j2 j3 j4 i0 i1 i2 i3 i4 n0 n1 n2 n3 n4
        unfold nd at *
        simp only []
        go_at_K
        go_wp2_with (first
          | (go_at_call 19; (with_reducible refine (MayT.call HM5.out (Below.refl _ _)).mono ?_); rintro e w6 ⟨rfl, hb6⟩; replace HB5 := Lib.hid (HB5.out.trans (hb6.mono HB5.out.size)); clear hb6)
          | (go_at_call 9; refine (known15_any _).mono ?_; rintro e w7 ⟨rfl, hb6⟩; replace HB5 := Lib.hid (HB5.out.trans (hb6.mono HB5.out.size)); clear hb6))
        go_ret
        exact ⟨rfl, HB5.out⟩
theorem own : ownKnob Try.prog.godebug = none := by kernel_rfl
theorem laidOut : laidOutB Try.prog = true := by kernel_rfl
set_option maxRecDepth 1000000 in
theorem contract (H : Type) (enc : TypeId × Value → H) (W : World) (base : Nat) (args : Array Value) (ds gs : List (DataW H)) (before : List MemPlace)
    (hval : ∀ (j : Nat) t v, Try.f7.params[j]? = some t → args[j]? = some v → Value.okWide Try.prog W .any base t v)
    (hW : DataW.Whole enc Try.prog Try.f7.params.toList Rows.treePutsSpec.vars false W args.toList ds gs before) :
    Calls Try.prog 7 args W fun e W' => ∃ v, e = .returned v ∧ Rows.treePutsSpec.post enc Try.prog Try.f7 false true false false W args v W' := by
  have hW' := hW
  obtain ⟨p, q, hA0, hV, rfl, hfz, hnd⟩ := hW
  have hA : DataW.TrodAll enc Try.prog W 0 (fun _ => true) true Try.f7.params.toList args.toList ds p := hA0
  rw [Try.params7] at hA hval
  obtain ⟨v0, vs0, d0, ds0, p0, q0, hargs, rfl, rfl, h0, r0⟩ := trodAll_cons hA
  obtain ⟨v1, vs1, d1, ds1, p1, q1, rfl, rfl, rfl, h1, r1⟩ := trodAll_cons r0
  obtain ⟨v2, vs2, d2, ds2, p2, q2, rfl, rfl, rfl, h2, r2⟩ := trodAll_cons r1
  obtain ⟨v3, vs3, d3, ds3, p3, q3, rfl, rfl, rfl, h3, r3⟩ := trodAll_cons r2
  obtain ⟨rfl, rfl, rfl⟩ := trodAll_nil r3
  obtain rfl : args = #[v0, v1, v2, v3] := by cases args; simp_all
  obtain ⟨rfl, rfl⟩ := trodVars_none hV
  obtain ⟨n0, w0⟩ := node_of (.inl (hval 0 26 v0 rfl rfl)) h0
  have k0 := h0
  have lt0 : ∀ x ∈ p0, x.block < W.heap.size := by obtain ⟨m, hm⟩ := k0; exact DataW.trod_lt m _ _ _ hm
  obtain ⟨n1, w1⟩ := node_of (.inl (hval 1 26 v1 rfl rfl)) h1
  have k1 := h1
  have lt1 : ∀ x ∈ p1, x.block < W.heap.size := by obtain ⟨m, hm⟩ := k1; exact DataW.trod_lt m _ _ _ hm
  obtain ⟨n2, w2⟩ := node_of (.inl (hval 2 26 v2 rfl rfl)) h2
  have k2 := h2
  have lt2 : ∀ x ∈ p2, x.block < W.heap.size := by obtain ⟨m, hm⟩ := k2; exact DataW.trod_lt m _ _ _ hm
  obtain ⟨a3, rfl, rfl, rfl, w3⟩ := open_int Try.underlying3 (hval 3 3 v3 rfl rfl) h3
  clear hA0
  refine (walk v0 n0 v1 n1 v2 n2 a3 W w0 w1 w2 w3).mono fun e W' ⟨he, bel⟩ => ?_
  subst he
  exact ⟨_, rfl, _, _, _, [], _, [], hW', trodAll_mk1 (shut_bool Try.underlying4 _), (trodAll_cons_mk (Below.trod laidOut (by kernel_rfl) (of_decide_eq_true (by kernel_rfl)) k0 bel lt0) (trodAll_cons_mk (Below.trod laidOut (by kernel_rfl) (of_decide_eq_true (by kernel_rfl)) k1 bel lt1) (trodAll_cons_mk (Below.trod laidOut (by kernel_rfl) (of_decide_eq_true (by kernel_rfl)) k2 bel lt2) (trodAll_cons_mk (shut_int Try.underlying3 w3) trodAll_mk0)))), rfl, bel.frame _, fun h => by cases h⟩
set_option maxRecDepth 100000 in
theorem lifted (os : Os) (started : os.Started) (H : Type) (enc : TypeId × Value → H) :
    ReturnsInHanded {} Try.checked os 7 .any (Rows.treePutsSpec.pre6 enc Try.prog Try.f7 Rows.treePutsRow.domain false) (Rows.treePutsSpec.post enc Try.prog Try.f7 false true false false) := by
  refine returnsInHanded_of_change (C := Try.checked) own started (by kernel_rfl) Try.func7
    (ChangeSpec.witness6 (enc := enc) (C := Try.checked) false ⟨#[], #[.agg #[.int .i64 0, .string .empty, .int .u32 0, .bool false, .slice none 0 0], .agg #[.int .i64 0, .string .empty, .int .u32 0, .bool false, .slice none 0 0], .agg #[.int .i64 0, .string .empty, .int .u32 0, .bool false, .slice none 0 0], .int .i64 0], []⟩ 8 (by kernel_rfl) (by kernel_rfl) (by kernel_rfl) (by kernel_rfl)) ?_
  intro W base args ds gs before hval hW hcnd _
  exact contract H enc W base args ds gs before hval hW
theorem said : Rows.TreePutsSaid :=
  OpenClaim.holds_of_wide 7 Try.f7 rfl rfl rfl rfl rfl rfl rfl ⟨rfl, rfl, rfl, rfl, rfl⟩ rfl rfl rfl rfl rfl (by kernel_rfl) Try.func7 (by kernel_rfl)
    (of_decide_eq_true (by kernel_rfl)) (by unfold Func.isWrapper; first | (rw [if_pos (by decide +kernel)]; kernel_rfl) | (rw [if_neg (by decide +kernel)]; exact ⟨rfl, rfl⟩))
    (fun os started H enc _ => lifted os started H enc)
theorem proved : Rows.TreePutsSaid := said
end Go.Proofs.Ytkhbmamgfkpdbaa.treePuts
