/-
  A scanner in memory: the map of signs; a name is put to the names; names' numbers.
-/
import Derived.Test.YthpdgghjaglhnaaGreatDoorSnB
import Derived.Deep.AppendLies
namespace Go.Proofs.YthpdgghjaglhnaaGreatDoor
open Go.ChangeShapes Go.WideShapes Go.ChangeAt Go.RowKit
open Go.ChangeMaps (setBlock)
open Ev (WRow)
set_option linter.unusedVariables false
set_option linter.unusedSimpArgs false
theorem sturned_below {w w' : World} {b : Nat} (h : w.mapTurned w' b) {B : Nat} (hB : B ≤ b) : Below B w w' := by
  obtain ⟨es, clock, es', clock', hb, rfl⟩ := h
  exact ⟨rfl, rfl, rfl, by simp [setBlock], fun k hk => by show (w.heap.setIfInBounds b _)[k]? = w.heap[k]?; rw [Array.getElem?_setIfInBounds_ne (by omega)]⟩
def sgD : DataW Value := ((((((((((((((((((((((.map [] : DataW Value).put (.int .u8 61) (.held (.int .i64 1))).put (.int .u8 35) (.held (.int .i64 2))).put (.int .u8 60) (.held (.int .i64 3))).put (.int .u8 62) (.held (.int .i64 5))).put (.int .u8 43) (.held (.int .i64 7))).put (.int .u8 45) (.held (.int .i64 8))).put (.int .u8 42) (.held (.int .i64 9))).put (.int .u8 47) (.held (.int .i64 10))).put (.int .u8 46) (.held (.int .i64 11))).put (.int .u8 94) (.held (.int .i64 12))).put (.int .u8 38) (.held (.int .i64 13))).put (.int .u8 126) (.held (.int .i64 14))).put (.int .u8 40) (.held (.int .i64 15))).put (.int .u8 41) (.held (.int .i64 16))).put (.int .u8 91) (.held (.int .i64 17))).put (.int .u8 93) (.held (.int .i64 18))).put (.int .u8 123) (.held (.int .i64 19))).put (.int .u8 125) (.held (.int .i64 20))).put (.int .u8 44) (.held (.int .i64 21))).put (.int .u8 59) (.held (.int .i64 22))).put (.int .u8 58) (.held (.int .i64 23)))
theorem has_put8 {D : DataW Value} (hD : Maps.IsMap D) (k c : Int) (y : DataW Value) : Maps.has (D.put (.int .u8 k) y) (.int .u8 c) = (decide (c = k) || Maps.has D (.int .u8 c)) := by
  by_cases h : c = k
  · subst h
    rw [Maps.has_put_same hD (show WideAt.IsKeyLit (.int .u8 c) from True.intro)]; simp
  · rw [Maps.has_put_other (by intro e; injection e with _ e2; exact h e2)]; simp [h]
theorem at_put8 {D : DataW Value} (hD : Maps.IsMap D) (k c : Int) (y z : DataW Value) : (D.put (.int .u8 k) y).atKey (.int .u8 c) z = if c = k then y else D.atKey (.int .u8 c) z := by
  by_cases h : c = k
  · subst h
    rw [Maps.atKey_put_same hD (show WideAt.IsKeyLit (.int .u8 c) from True.intro), if_pos rfl]
  · rw [Maps.atKey_put_other (by intro e; injection e with _ e2; exact h e2), if_neg h]
def mkD : List (Int × Int) → DataW Value → DataW Value
  | [], D => D
  | p :: r, D => mkD r (D.put (.int .u8 p.1) (.held (.int .i64 p.2)))
theorem mk_has (c : Int) : ∀ (l : List (Int × Int)) (D : DataW Value), Maps.IsMap D → Maps.has (mkD l D) (.int .u8 c) = ((lk l c).isSome || Maps.has D (.int .u8 c))
  | [], D, h => by simp [mkD, lk]
  | p :: r, D, h => by
    rw [mkD, mk_has c r _ (h.put _ _), has_put8 h, lk]
    by_cases e : c = p.1
    · simp [e]
    · simp [e]
theorem mk_at (c : Int) (z : DataW Value) : ∀ (l : List (Int × Int)) (D : DataW Value), Maps.IsMap D → (l.map (·.1)).Nodup → (mkD l D).atKey (.int .u8 c) z = match lk l c with | some y => .held (.int .i64 y) | none => D.atKey (.int .u8 c) z
  | [], D, h, hn => rfl
  | p :: r, D, h, hn => by
    rw [List.map_cons, List.nodup_cons] at hn
    rw [mkD, mk_at c z r _ (h.put _ _) hn.2, at_put8 h, lk]
    by_cases e : c = p.1
    · have hnone : lk r c = none := by
        have : ∀ l : List (Int × Int), c ∉ l.map (·.1) → lk l c = none := by
          intro l
          induction l with
          | nil => intro _; rfl
          | cons a t ih =>
            intro hc
            rw [List.map_cons, List.mem_cons, not_or] at hc
            rw [lk, if_neg hc.1, ih hc.2]
        exact this r (by rw [e]; exact hn.1)
      rw [hnone, if_pos e, if_pos e]
    · rw [if_neg e, if_neg e]
theorem sgD_ok : SgOk sgD := by
  have e : sgD = mkD sgP (.map []) := rfl
  intro c h0 h1
  refine ⟨?_, fun y hy z => ?_⟩
  · rw [e, mk_has c _ _ Maps.isMap_empty]
    simp [sgF, Maps.has]
  · rw [e, mk_at c z _ _ Maps.isMap_empty (by decide)]
    unfold sgF at hy
    rw [hy]
set_option maxHeartbeats 4000000 in
theorem signs_any (w : World) : Calls Tryz.prog 13 #[] w fun e w' => e = .returned (.map (some w.heap.size)) ∧ w'.ownsMap Tryz.prog 5 sheld w.heap.size 21 sgD ∧ Below w.heap.size w w' := by
  have hmm := @run_makeMap Tryz.prog
  have m0 : (w.alloc (.map #[] 0)).ownsMap Tryz.prog 5 sheld w.heap.size 0 (.map []) := World.ownsMap_made w Tryz.prog 5 sheld
  have B0 : Below w.heap.size w (w.alloc (.map #[] 0)) := (Below.refl _ _).alloc (Nat.le_refl _) _
  obtain ⟨w1, r1, m1, t1⟩ := m0.store (key := .int .u8 61) (val := .int .i64 1) skeyed8 Tryz.underlying42 (by decide) (skey8 61 (by decide)) (rfl : sheld _ = _)
  have B1 := B0.trans (sturned_below t1 (Nat.le_refl _))
  obtain ⟨w2, r2, m2, t2⟩ := m1.store (key := .int .u8 35) (val := .int .i64 2) skeyed8 Tryz.underlying42 (by decide) (skey8 35 (by decide)) (rfl : sheld _ = _)
  have B2 := B1.trans (sturned_below t2 (Nat.le_refl _))
  obtain ⟨w3, r3, m3, t3⟩ := m2.store (key := .int .u8 60) (val := .int .i64 3) skeyed8 Tryz.underlying42 (by decide) (skey8 60 (by decide)) (rfl : sheld _ = _)
  have B3 := B2.trans (sturned_below t3 (Nat.le_refl _))
  obtain ⟨w4, r4, m4, t4⟩ := m3.store (key := .int .u8 62) (val := .int .i64 5) skeyed8 Tryz.underlying42 (by decide) (skey8 62 (by decide)) (rfl : sheld _ = _)
  have B4 := B3.trans (sturned_below t4 (Nat.le_refl _))
  obtain ⟨w5, r5, m5, t5⟩ := m4.store (key := .int .u8 43) (val := .int .i64 7) skeyed8 Tryz.underlying42 (by decide) (skey8 43 (by decide)) (rfl : sheld _ = _)
  have B5 := B4.trans (sturned_below t5 (Nat.le_refl _))
  obtain ⟨w6, r6, m6, t6⟩ := m5.store (key := .int .u8 45) (val := .int .i64 8) skeyed8 Tryz.underlying42 (by decide) (skey8 45 (by decide)) (rfl : sheld _ = _)
  have B6 := B5.trans (sturned_below t6 (Nat.le_refl _))
  obtain ⟨w7, r7, m7, t7⟩ := m6.store (key := .int .u8 42) (val := .int .i64 9) skeyed8 Tryz.underlying42 (by decide) (skey8 42 (by decide)) (rfl : sheld _ = _)
  have B7 := B6.trans (sturned_below t7 (Nat.le_refl _))
  obtain ⟨w8, r8, m8, t8⟩ := m7.store (key := .int .u8 47) (val := .int .i64 10) skeyed8 Tryz.underlying42 (by decide) (skey8 47 (by decide)) (rfl : sheld _ = _)
  have B8 := B7.trans (sturned_below t8 (Nat.le_refl _))
  obtain ⟨w9, r9, m9, t9⟩ := m8.store (key := .int .u8 46) (val := .int .i64 11) skeyed8 Tryz.underlying42 (by decide) (skey8 46 (by decide)) (rfl : sheld _ = _)
  have B9 := B8.trans (sturned_below t9 (Nat.le_refl _))
  obtain ⟨w10, r10, m10, t10⟩ := m9.store (key := .int .u8 94) (val := .int .i64 12) skeyed8 Tryz.underlying42 (by decide) (skey8 94 (by decide)) (rfl : sheld _ = _)
  have B10 := B9.trans (sturned_below t10 (Nat.le_refl _))
  obtain ⟨w11, r11, m11, t11⟩ := m10.store (key := .int .u8 38) (val := .int .i64 13) skeyed8 Tryz.underlying42 (by decide) (skey8 38 (by decide)) (rfl : sheld _ = _)
  have B11 := B10.trans (sturned_below t11 (Nat.le_refl _))
  obtain ⟨w12, r12, m12, t12⟩ := m11.store (key := .int .u8 126) (val := .int .i64 14) skeyed8 Tryz.underlying42 (by decide) (skey8 126 (by decide)) (rfl : sheld _ = _)
  have B12 := B11.trans (sturned_below t12 (Nat.le_refl _))
  obtain ⟨w13, r13, m13, t13⟩ := m12.store (key := .int .u8 40) (val := .int .i64 15) skeyed8 Tryz.underlying42 (by decide) (skey8 40 (by decide)) (rfl : sheld _ = _)
  have B13 := B12.trans (sturned_below t13 (Nat.le_refl _))
  obtain ⟨w14, r14, m14, t14⟩ := m13.store (key := .int .u8 41) (val := .int .i64 16) skeyed8 Tryz.underlying42 (by decide) (skey8 41 (by decide)) (rfl : sheld _ = _)
  have B14 := B13.trans (sturned_below t14 (Nat.le_refl _))
  obtain ⟨w15, r15, m15, t15⟩ := m14.store (key := .int .u8 91) (val := .int .i64 17) skeyed8 Tryz.underlying42 (by decide) (skey8 91 (by decide)) (rfl : sheld _ = _)
  have B15 := B14.trans (sturned_below t15 (Nat.le_refl _))
  obtain ⟨w16, r16, m16, t16⟩ := m15.store (key := .int .u8 93) (val := .int .i64 18) skeyed8 Tryz.underlying42 (by decide) (skey8 93 (by decide)) (rfl : sheld _ = _)
  have B16 := B15.trans (sturned_below t16 (Nat.le_refl _))
  obtain ⟨w17, r17, m17, t17⟩ := m16.store (key := .int .u8 123) (val := .int .i64 19) skeyed8 Tryz.underlying42 (by decide) (skey8 123 (by decide)) (rfl : sheld _ = _)
  have B17 := B16.trans (sturned_below t17 (Nat.le_refl _))
  obtain ⟨w18, r18, m18, t18⟩ := m17.store (key := .int .u8 125) (val := .int .i64 20) skeyed8 Tryz.underlying42 (by decide) (skey8 125 (by decide)) (rfl : sheld _ = _)
  have B18 := B17.trans (sturned_below t18 (Nat.le_refl _))
  obtain ⟨w19, r19, m19, t19⟩ := m18.store (key := .int .u8 44) (val := .int .i64 21) skeyed8 Tryz.underlying42 (by decide) (skey8 44 (by decide)) (rfl : sheld _ = _)
  have B19 := B18.trans (sturned_below t19 (Nat.le_refl _))
  obtain ⟨w20, r20, m20, t20⟩ := m19.store (key := .int .u8 59) (val := .int .i64 22) skeyed8 Tryz.underlying42 (by decide) (skey8 59 (by decide)) (rfl : sheld _ = _)
  have B20 := B19.trans (sturned_below t20 (Nat.le_refl _))
  obtain ⟨w21, r21, m21, t21⟩ := m20.store (key := .int .u8 58) (val := .int .i64 23) skeyed8 Tryz.underlying42 (by decide) (skey8 58 (by decide)) (rfl : sheld _ = _)
  have B21 := B20.trans (sturned_below t21 (Nat.le_refl _))
  have HM := Lib.hid m21
  have HB := Lib.hid B21
  clear m0 B0 m1 B1 m2 B2 m3 B3 m4 B4 m5 B5 m6 B6 m7 B7 m8 B8 m9 B9 m10 B10 m11 B11 m12 B12 m13 B13 m14 B14 m15 B15 m16 B16 m17 B17 m18 B18 m19 B19 m20 B20 m21 B21 t1 t2 t3 t4 t5 t6 t7 t8 t9 t10 t11 t12 t13 t14 t15 t16 t17 t18 t19 t20 t21
  go_enter Tryz.func13, Tryz.ntmps13
  go_wp2
  go_ret
  exact ⟨rfl, HM.out, HB.out⟩
section
variable {w : World} {B : Nat} {q : Sp} {s : Sn}
theorem infoS0 : (Tryz.prog.info? 9).map (fun i => (i.zero, i.size, i.bytes)) = some (some (.string (bs [])), 1, 16) := by kernel_rfl
theorem infoS : ∃ i, Tryz.prog.info? 9 = some i ∧ i.zero = some (.string (bs [])) ∧ i.size = 1 ∧ i.bytes = 16 := by
  cases hi : Tryz.prog.info? 9 with
  | none => have h := infoS0; rw [hi] at h; cases h
  | some i =>
    have h := infoS0
    rw [hi] at h
    have h2 := Option.some.inj h
    exact ⟨i, rfl, congrArg (·.1) h2, congrArg (·.2.1) h2, congrArg (·.2.2) h2⟩
theorem sndrewN (w : World) (n : Nat) : Below w.heap.size w (w.drewN n) := ⟨rfl, rfl, rfl, Nat.le_refl _, fun _ _ => rfl⟩
set_option maxHeartbeats 4000000 in
theorem add_any (h : SnAt w B q s) (hB : B ≤ w.heap.size) (l : List UInt8) (hn : l ∉ s.nms) (hl : l.length ≤ 15) (hm : s.nms.length < 700) :
    Calls Tryz.prog 15 #[.pointer (some ⟨q.p, 0, none⟩), .string (bs l)] w fun e w' => e = .returned (.int .i64 (s.nms.length : Int)) ∧ ∃ q', SnAt w' B q' { s with nms := s.nms ++ [l] } ∧ Sf q q' w w' := by
  obtain ⟨D, d1, d2⟩ := h.ids
  obtain ⟨A, c, hnv⟩ := names_form h
  have hnp := h.np
  have hni := h.ni
  have hlp := h.lt
  have hip := h.ip
  have c9 := h.c9
  have c10 := h.c10
  have z9 := h.z 9 (by omega)
  have hD1 := Lib.hid (idsOk_put d1.isMap d2 hn)
  obtain ⟨w1, hrun, hm1, hg1⟩ := (d1.drew).update skeyed Tryz.underlying41 (by unfold maxLen; omega) (skey (l := l) (by unfold maxLen; omega)) (val := .int .i64 (s.nms.length : Int)) (d := .held (.int .i64 (s.nms.length : Int))) (ps := []) rfl
  have HG1 : Hid (w.grownBy w1 (some q.ib)) := Lib.hid ⟨hg1.os, hg1.tape, hg1.output, hg1.size, hg1.block⟩
  have HM1 := Lib.hid hm1
  have kp : w1.heap[q.p]? = w.heap[q.p]? := hg1.block q.p hlp (fun e => hip (Option.some.inj e).symm)
  have d9 : w1.cell? ⟨q.p, 9, none⟩ = some q.nv := by rw [World.cell?_of_block (w := w) kp]; exact c9
  have y9 : w1.frozen? ⟨q.p, 9, none⟩ = false := by rw [World.frozen?_of_block (w := w) kp]; exact z9
  have hlp1 : q.p < w1.heap.size := Nat.lt_of_lt_of_le hlp HG1.out.size
  have HS := Lib.hid h
  have hrow1 : WRow w1 B 1 q.nv s.nms.length (s.nms.map fun l => .string (bs l)) := h.nms.kept HG1.out (by cases hv : q.nv.ownBlock; exact .inl rfl; exact .inr (fun e => hni (by rw [hv, e])))
  have hrow2 := Lib.hid (hrow1.below (w' := w1.alloc (.cells #[.string (bs l)] 9)) ((Below.refl _ _).alloc (Nat.le_refl _) _))
  have HA := Lib.hid ((Below.refl w1.heap.size w1).alloc (Nat.le_refl _) (.cells #[.string (bs l)] 9))
  obtain ⟨i, hi, hz, hsz, hby⟩ := infoS
  have hBw1 : B ≤ w1.heap.size := Nat.le_trans hB HG1.out.size
  have HN := Lib.hid (World.news_of_block (cs := #[.string (bs l)]) (t := 9) (fr := (0, 0)) (heap_alloc_new w1 (.cells #[.string (bs l)] 9)))
  have HNP := Lib.hid hnp
  have HNV := Lib.hid hnv
  rw [hnv] at c9 d9 hrow2
  have HR2 : Hid (WRow (w1.alloc (.cells #[.string (bs l)] 9)) B 1 (.slice A s.nms.length c) s.nms.length (s.nms.map fun l => .string (bs l))) := hrow2
  have HNN := Lib.hid hn
  have hasz : (w1.alloc (.cells #[.string (bs l)] 9)).heap.size = w1.heap.size + 1 := by simp
  have HBA : Hid (B ≤ (w1.alloc (.cells #[.string (bs l)] 9)).heap.size) := Lib.hid (by rw [hasz]; omega)
  have HM := Lib.hid hm
  have l1 : s.nms.length + 1 ≤ 4611686018427387904 := by omega
  have l2 : (s.nms.length + 1) * 16 ≤ 140737488355328 := by omega
  have ONE : ∀ x ∈ [Value.string (bs l)], x.oneCell' = true := by simp [Value.oneCell']
  have hcm : (s.nms.length : Int) + 1 < 9223372036854775807 := by omega
  clear hrow1 hrow2 kp h d1 d2 hm1 hg1 hn z9 hnv hnp hni hasz hm
  go_enter Tryz.func15, Tryz.ntmps15
  go_wp2_with fail
  go_region_with (fail)
  all_goals
    clear hrun c9 c10
    go_wp2_with (at_builtin; refine Ev.wpList_append_w rfl (.tmp 19) (.tmp 21) 27 27 rfl 9 i (.string (bs [])) 16 Tryz.underlying27 Tryz.underlying27 hi hz hsz hby rfl rfl HR2.out ⟨w1.heap.size, 0, none⟩ 1 1 [.string (bs l)] rfl rfl HN.out ONE (by omega) l1 l2 HBA.out _ rfl ?_; intro g f cap w2 hown hgrow hat hlt2; have hp := hgrow.block q.p (Nat.lt_of_lt_of_le hlp1 HA.out.size) (fun e => HNP.out (by rw [HNV.out]; exact e.symm)); have k9 : w2.cell? ⟨q.p, 9, none⟩ = some (.slice A s.nms.length c) := (by rw [World.cell?_of_block hp, HA.out.cell hlp1]; exact d9); have y9b : w2.frozen? ⟨q.p, 9, none⟩ = false := (by rw [World.frozen?_of_block hp, HA.out.frozen hlp1]; exact y9); have HO := Lib.hid hown; have HGR := Lib.hid hgrow; have HAT := Lib.hid hat; clear hown hgrow hat hp)
    go_ret
    rw [← HNV.out] at HGR HAT
    obtain ⟨r1, r2⟩ := HS.out.added l HNN.out hl HM.out HM1.out hD1.out HG1.out HA.out HO.out HGR.out HAT.out hB
    exact ⟨rfl, _, r1, r2⟩
end
end Go.Proofs.YthpdgghjaglhnaaGreatDoor
