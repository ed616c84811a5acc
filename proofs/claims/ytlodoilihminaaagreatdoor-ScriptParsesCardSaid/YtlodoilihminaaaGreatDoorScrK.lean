/-
  script.number: a text read as a number, its very text.
-/
import Derived.Test.YtlodoilihminaaaGreatDoorScrJ
import Derived.Lib.AtoiErrMem
namespace Go.Proofs.YtlodoilihminaaaGreatDoor
open Go.ChangeShapes Go.WideShapes Go.ChangeAt Go.RowKit
set_option linter.unusedVariables false
set_option linter.unusedSimpArgs false
/-- what strconv's errors are -/
structure ErrT (w : World) : Prop where
  syn : ∃ tp p, w.var? Tryz.prog "strconv.ErrSyntax" = some #[.iface tp p]
  rng : ∃ tp p, w.var? Tryz.prog "strconv.ErrRange" = some #[.iface tp p]
theorem atoi_fits {l : List UInt8} {v : Int} (h : Lib.atoiAll l = .ok v) : -9223372036854775808 ≤ v ∧ v ≤ 9223372036854775807 := by
  unfold Lib.atoiAll at h
  split at h
  · cases h
  · simp only at h
    split at h
    · cases h
    · cases h
    · next u _ =>
      split at h
      · cases h
      · next h1 =>
        split at h
        · cases h
        · next h2 =>
          have e := Lib.NumEnd.ok.inj h
          split at e <;> omega
set_option maxHeartbeats 2000000 in
theorem number_any (s : List UInt8) (w : World) (hs : s.length ≤ 1000000) (hT : Tab w) (hE : ErrT w) :
    Calls Tryz.prog 27 #[.string (S s)] w fun e w' => e = .returned (.int .i64 (numOf s)) ∧ Below w.heap.size w w' := by
  have hsz : (S s).size = s.length := S_size s
  have hd : (S s).data.toList = s := rfl
  cases hr : Lib.atoiAll s with
  | ok v =>
    obtain ⟨h0, h1⟩ := atoi_fits hr
    have HA := Lib.hid (Tryz.strconv_Atoi_ok (S s) (by rw [hsz]; omega) v (by rw [hd]; exact hr) w)
    have HI := Lib.hid fun (V : World) (hV : Below w.heap.size w V) => Tryz.strconv_Itoa v h0 h1 V (Tab.below hT hV)
    by_cases he : Lib.itoa v = s
    · have hn : numOf s = v := by unfold numOf; rw [hr]; exact if_pos he
      rw [hn]
      clear hr hT hE hsz hd h0 h1 hn
      have hes : (⟨(Lib.itoa v).toArray⟩ : ByteArray) = S s := by rw [he]; rfl
      rw [hes] at HI
      clear hes he
      generalize S s = ss at *
      go_enter Tryz.func27, Tryz.ntmps27
      go_wp2_with (first | (go_at_call 56; (with_reducible refine HA.out.mono ?_); rintro e w1 ⟨rfl, hw1⟩; have HB1 : Hid (Below w.heap.size w w1) := Lib.hid (by rcases hw1 with rfl | ⟨t, rfl⟩; exact Below.refl _ _; exact Lib.bytesWorld_below w _ t); clear hw1) | (go_at_call 41; (with_reducible refine (HI.out _ HB1.out).mono ?_); rintro e w2 ⟨rfl, k, os, rfl⟩))
      go_ret
      exact ⟨rfl, HB1.out.trans ((grow_below _ _ _).mono HB1.out.size)⟩
    · have hn : numOf s = -1 := by unfold numOf; rw [hr]; exact if_neg he
      rw [hn]
      have hes : ((⟨(Lib.itoa v).toArray⟩ : ByteArray).toList == (S s).toList) = false := by
        rw [ByteArray.toList_eq, ByteArray.toList_eq]
        show ((Lib.itoa v).toArray.toList == s) = false
        simpa using he
      clear hr hT hE hsz hd h0 h1 hn he
      generalize S s = ss at *
      generalize (⟨(Lib.itoa v).toArray⟩ : ByteArray) = tt at *
      go_enter Tryz.func27, Tryz.ntmps27
      go_wp2_with (first | (go_at_call 56; (with_reducible refine HA.out.mono ?_); rintro e w1 ⟨rfl, hw1⟩; have HB1 : Hid (Below w.heap.size w w1) := Lib.hid (by rcases hw1 with rfl | ⟨t, rfl⟩; exact Below.refl _ _; exact Lib.bytesWorld_below w _ t); clear hw1) | (go_at_call 41; (with_reducible refine (HI.out _ HB1.out).mono ?_); rintro e w2 ⟨rfl, k, os, rfl⟩))
      go_ret
      exact ⟨rfl, HB1.out.trans ((grow_below _ _ _).mono HB1.out.size)⟩
  | range =>
    obtain ⟨tp, p, hv⟩ := hE.rng
    have HA := Lib.hid (Tryz.strconv_Atoi_range_var (S s) (by rw [hsz]; omega) (by rw [hd]; exact hr) tp p w hv)
    have hn : numOf s = -1 := by unfold numOf; rw [hr]
    rw [hn]
    clear hr hT hE hsz hd hn hv
    go_enter Tryz.func27, Tryz.ntmps27
    go_wp2_with (go_at_call 56; (with_reducible refine HA.out.mono ?_); rintro e w1 ⟨N, rfl, -, -, hb⟩; have HB1 := Lib.hid hb; clear hb)
    go_ret
    exact ⟨rfl, HB1.out⟩
  | _ =>
    obtain ⟨tp, p, hv⟩ := hE.syn
    have HA := Lib.hid (Tryz.strconv_Atoi_none_var (S s) (by rw [hsz]; omega) (by rw [hd, hr]; intro v e; cases e) (by rw [hd, hr]; intro e; cases e) tp p w hv)
    have hn : numOf s = -1 := by unfold numOf; rw [hr]
    rw [hn]
    clear hr hT hE hsz hd hn hv
    go_enter Tryz.func27, Tryz.ntmps27
    go_wp2_with (go_at_call 56; (with_reducible refine HA.out.mono ?_); rintro e w1 ⟨N, rfl, -, -, hb⟩; have HB1 := Lib.hid hb; clear hb)
    go_ret
    exact ⟨rfl, HB1.out⟩
end Go.Proofs.YtlodoilihminaaaGreatDoor
