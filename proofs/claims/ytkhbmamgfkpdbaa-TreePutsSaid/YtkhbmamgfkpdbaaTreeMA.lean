/-
  tree.Walk: what it hands back is an iterator over all nodes.
-/
import Derived.Test.YtkhbmamgfkpdbaaTreeM
import Derived.Deep.RegionHeld3
import Derived.Deep.RegionWith
namespace Go.Proofs.Ytkhbmamgfkpdbaa
open Go.ChangeShapes Go.WideShapes Go.ChangeAt Go.RowKit Go.Shelf
set_option linter.unusedVariables false
attribute [local go_sem] Oper.semAt_some
set_option maxHeartbeats 4000000 in
set_option maxRecDepth 100000 in
theorem walk1_seq {W : World} {Bk : Nat} {t : Tr} {k : Int} {s : ByteArray} {v : Int} {m : Bool} {a : Option Addr} {len cap : Nat} (h : Reads W t (nd k s v m a len cap)) (hk : W.heap[Bk]? = some (.cells #[.int .i64 k, .string s, .int .u32 v, .bool m, .slice a len cap] 26 (0, 0))) (hc : t.count ≤ 1000) :
    SeqT Try.prog 35 #[.pointer (some ⟨Bk, 0, none⟩)] encT (XT W.heap.size (t.flat 0)) t.count (fun xs => xs.length = t.count) W := by
  intro l J Jx hJ hJx hY h0
  have hlen := flat_len t 0
  have HC := Lib.hid (copyT_all t _ h)
  have a1 := below1 W (.cells #[.func (.yield l) #[] #[]] 57)
  have a2 := a1.alloc a1.size (.cells #[.func (.func 36) #[] #[.pointer (some ⟨W.heap.size, 0, none⟩), .pointer (some ⟨W.heap.size + 1, 0, none⟩)]] 57)
  have HBW := Lib.hid a2
  have HCC := fun V hV => CopyT.call HC.out (W := V) hV (by omega)
  have b1 : ((W.alloc (.cells #[.func (.yield l) #[] #[]] 57)).alloc (.cells #[.func (.func 36) #[] #[.pointer (some ⟨W.heap.size, 0, none⟩), .pointer (some ⟨W.heap.size + 1, 0, none⟩)]] 57)).heap[W.heap.size]? = some (.cells #[.func (.yield l) #[] #[]] 57 (0, 0)) := by
    rw [Below.heap_alloc _ _ _ (by simp)]; exact heap_alloc_new W _
  have b2 : ((W.alloc (.cells #[.func (.yield l) #[] #[]] 57)).alloc (.cells #[.func (.func 36) #[] #[.pointer (some ⟨W.heap.size, 0, none⟩), .pointer (some ⟨W.heap.size + 1, 0, none⟩)]] 57)).heap[W.heap.size + 1]? = some (.cells #[.func (.func 36) #[] #[.pointer (some ⟨W.heap.size, 0, none⟩), .pointer (some ⟨W.heap.size + 1, 0, none⟩)]] 57 (0, 0)) := by
    have := heap_alloc_new (W.alloc (.cells #[.func (.yield l) #[] #[]] 57)) (.cells #[.func (.func 36) #[] #[.pointer (some ⟨W.heap.size, 0, none⟩), .pointer (some ⟨W.heap.size + 1, 0, none⟩)]] 57)
    simpa using this
  have z4 : ((W.alloc (.cells #[.func (.yield l) #[] #[]] 57)).alloc (.cells #[.nilFunc] 57)).heap[W.heap.size + 1]? = some (.cells #[.nilFunc] 57 (0, 0)) := by
    have := heap_alloc_new (W.alloc (.cells #[.func (.yield l) #[] #[]] 57)) (.cells #[.nilFunc] 57)
    simpa using this
  have rs := store_fn _ _ _ (cell0 z4) (frz0 0 z4)
  have HB := Lib.hid (And.intro b1 b2)
  clear b1 b2 z4 a1 a2
  have HW : Hid (∀ (A : World) (u : Value), J [] A → W.heap.size ≤ A.heap.size → Boxes W.heap.size l W.heap.size (W.heap.size + 1) A → ROwn A (fun b => W.heap.size ≤ b) t u → Calls Try.prog 36 #[.int .i64 0, u, .pointer (some ⟨W.heap.size, 0, none⟩), .pointer (some ⟨W.heap.size + 1, 0, none⟩)] A fun e B => (∃ b, e = .returned (.bool b)) ∧ ((∃ xs : List Told, xs.length = t.count ∧ J xs B) ∨ (∃ pre, Jx pre B))) := Lib.hid fun A u hj hC hB hu =>
    (callsIn_wide.1 (walkT_all t W.heap.size l W.heap.size (W.heap.size + 1) (t.flat 0) J Jx hJ (fun pre x A e1 e2 e3 => hY pre x A e1 e2 (hlen ▸ e3)) [] 0 u A hj hC hB hu (fun i _ => by simp) (by omega) (by omega) (by simp [hlen]))).mono fun e B h => by
      rcases h with ⟨rfl, ys, hl, hj, -⟩ | ⟨rfl, ys, hx⟩
      · exact ⟨⟨_, rfl⟩, .inl ⟨ys, hl, hj⟩⟩
      · exact ⟨⟨_, rfl⟩, .inr ⟨_, hx⟩⟩
  have HKB : Hid (CellsB W Bk k s v m a len cap ∧ Bk < W.heap.size) := Lib.hid ⟨⟨by simp [World.cell?, hk], by simp [World.cell?, hk], by simp [World.cell?, hk], by simp [World.cell?, hk], by simp [World.cell?, hk], lt_blk hk⟩, lt_blk hk⟩
  obtain ⟨k0, k1, k2, k3, k4, -⟩ := HKB.out.1
  have HJ := Lib.hid hJ
  have HJX := Lib.hid hJx
  have HJ0 := Lib.hid (hJ _ _ _ h0 HBW.out)
  clear hJ hJx hY h0 h hk HC hlen
  unfold nd at *
  refine callsIn_wide.2 ?_
  go_enter Try.func35, Try.ntmps35
  go_wp2_with fail
  obtain ⟨d1, d2⟩ := HB.out
  have HF := Lib.hid (HKB.out.1.next HBW.out)
  have HG : Hid (W.heap.size ≤ (((W.alloc (.cells #[.func (.yield l) #[] #[]] 57)).alloc (.cells #[.func (.func 36) #[] #[.pointer (some ⟨W.heap.size, 0, none⟩), .pointer (some ⟨W.heap.size + 1, 0, none⟩)]] 57))).heap.size) := Lib.hid HBW.out.size
  generalize ((W.alloc (.cells #[.func (.yield l) #[] #[]] 57)).alloc (.cells #[.func (.func 36) #[] #[.pointer (some ⟨W.heap.size, 0, none⟩), .pointer (some ⟨W.heap.size + 1, 0, none⟩)]] 57)) = V at *
  clear k0 k1 k2 k3 k4 rs
  have hVd : Below V.heap.size V V.drew := (Below.refl _ _).drew
  have HBd := Lib.hid (HBW.out.trans (hVd.mono HG.out))
  obtain ⟨k0, k1, k2, k3, k4, klt⟩ := HF.out.next hVd
  have dd2 : V.drew.heap[W.heap.size + 1]? = some _ := d2
  have dd1 : V.drew.heap[W.heap.size]? = some _ := d1
  have c1 := cell0 dd2
  have HD := Lib.hid (And.intro dd1 dd2)
  have HFd := Lib.hid (HF.out.next hVd)
  have HJd := Lib.hid (HJ.out _ _ _ HJ0.out (hVd.mono HG.out))
  have hsz : W.heap.size ≤ V.drew.heap.size := Nat.le_trans HG.out hVd.size
  clear dd1 dd2 d1 d2 hVd HB HF HJ0 HBW klt HKB
  go_region_with (first
    | (go_at_call 17; refine (HCC V.drew HBd.out).mono ?_; rintro e w2 ⟨k', s', v', m', a', l', c', rfl, hb, hro⟩; have HRO := Lib.hid (ROwn.keep (T := fun b => W.heap.size ≤ b) _ hro fun b _ hS => ⟨rfl, Nat.le_trans hsz hS⟩); have HJ2 := Lib.hid (HJ.out _ _ _ HJd.out (hb.mono hsz)); have HX : Hid (Boxes W.heap.size l W.heap.size (W.heap.size + 1) w2) := Lib.hid ⟨by rw [hb.block _ (lt_blk HD.out.1)]; exact HD.out.1, by rw [hb.block _ (lt_blk HD.out.2)]; exact HD.out.2, Nat.le_refl _, Nat.le_succ _⟩; have hsz2 : W.heap.size ≤ w2.heap.size := Nat.le_trans hsz hb.size; obtain ⟨n0, n1, n2, n3, n4, -⟩ := HFd.out.next hb; have n5 := cell0 HX.out.hw; clear hb hro)
    | (go_at_call 36; refine (HW.out w2 _ HJ2.out hsz2 HX.out HRO.out).mono ?_; rintro e w3 ⟨⟨b, rfl⟩, hr⟩; have HR := Lib.hid hr; clear hr))
  all_goals
    clear HCC HW HJ HJX k0 k1 k2 k3 k4 n0 n1 n2 n3 n4 n5
    go_wp2_with fail
    go_end0
    exact ⟨⟨_, rfl⟩, HR.out⟩
end Go.Proofs.Ytkhbmamgfkpdbaa
