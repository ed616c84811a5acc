/-
  The document's scanner: all symbols of a source: texts.
-/
import Derived.Test.YthpdgghjaglhnaaGreatDoorSqE2
namespace Go.Proofs.YthpdgghjaglhnaaGreatDoor
open Go.ChangeShapes Go.WideShapes Go.ChangeAt Go.RowKit
open Ev (WRow)
set_option linter.unusedVariables false
set_option linter.unusedSimpArgs false
set_option maxRecDepth 100000 in
set_option maxHeartbeats 16000000 in
def qscanC := qscanB (by
  refine ⟨?_⟩
  intro w n c zs hn hcap u HUS HA0 HFT HBY HLZ i0 hi0 hz0 hsz0 hby0 i1 hi1 hy0 hy1 hy2 W0 g f cap w2 p _ _ wr u5 u6 u7 u8 u9 u10 u11 u12 u13 u14 u15 u16 u17 u18 u29 u30 u31 u32 u33 u34 u35 u36 u37 u38 u39 u40 u41 u42 u43 u44 u45 u46 u47 u48 u49 u50 u51 u52 u53 u54 u55 u56 u57 u58 u59 u60 u61 u62 u63 u64 u65 u66 u67 u68 u69 u70 u71 u72 u73 u74 u75 u76 u77 u78 u79 u80 u81 u82 u83 u84 u85 u86 u87 u88 u89 u90 u91 u92 u93 u94 u95 u96 u97 u98 u99 u100 u101 u102 u103 u104 u105 u106 u107 u108 u109 u110 u111 u112 u113 u114 u115 u116 u117 u118 u119 u120 u121 u122 u123 u124 u125 u126 u127 u128 u129 u130 u131 u132 u133 u134 u135 u136 u137 u138 u139 u140 u141 u142 u143 u144 u145 u146 u147 u148 u149 u150 u151 u152 u153 u154 u155 u156 u157 u158 u159 u160 u161 u162 u163 u164 u165 u166 u167 u168 u169 u170 u171 u172 u173 u174 u175 u176 u177 u178 u179 u180 u181 u182 u183 u184 u185 u186 u187 u188 u189 u190 u191 u192 u193 u194 u195 u196 u197 u198 u199 u200 u201 u202 u203 u204 u205 u206 u207 u208 u209 u210 u211 u212 u213 u214 u215 u216 u217 u218 u219 u220 u221 u222 u223 u224 u225 u226 u227 u228 u229 u230 u231 u232 u233 u234 u235 u236 u237 u238 u239 k v nv _ s HQ HF HSE HJ HAT HSS a ha1 HGS HAE p0 hpn hk9 _ _ W1 HQX y hpy HBX HYX HYE hp9 xa HRD HBK _ _ _ HCL HA1 q0 HQ0 HQS HQA HQC c2 z2 c3 z3 y0 y2 y3 y4 t0 t2 t3 t4 hc HX0 HK hl hd
  rw [hl, hd, if_neg (by simp), if_neg (by simp), if_pos rfl] at HK
  obtain ⟨K, hK⟩ : ∃ K, K = tw txB (zs.drop (p0 + 1)) := ⟨_, rfl⟩
  have hKn : p0 + 1 + K ≤ n := by have := tw_le txB (zs.drop (p0 + 1)); rw [← hK, List.length_drop, HLZ.out] at this; omega
  rw [textF_eq (K := K) (by rw [HQS.out, HQA.out]; exact hK.symm), HQS.out, HQA.out] at HK
  have HT := Lib.hid fun j (hj : j ≤ K) => (hK ▸ tw_drop txB txB_0 zs (p0 + 1) j (hK ▸ hj) : txB (nth zs (p0 + 1 + j)) = decide (j < K))
  clear hK
  obtain ⟨f0, hf0⟩ : ∃ f0, f0 = p0 + 1 := ⟨_, rfl⟩
  have hfe : (p0 : Int) + 1 = (f0 : Int) := by omega
  have hf1 : f0 ≤ p0 + 1 := by omega
  have hf2 : p0 + 1 ≤ f0 := by omega
  rw [← hf0] at HK HT hKn
  have HFE := Lib.hid hf0
  clear hf0 hfe
  have wi : IntKind.i64.wrap ((p0 : Int) + 1) = (p0 : Int) + 1 := by rw [IntKind.wrap_i64]; omega
  go_wp2_with (first
    | (go_at_call 20; (with_reducible refine (qletter_any _ _).mono ?_); rintro e w' ⟨rfl, rfl⟩; rw [hl])
    | (go_at_call 22; (with_reducible refine (qdigit_any _ _).mono ?_); rintro e w' ⟨rfl, rfl⟩; rw [hd]))
  go_loopw [16] (fun kv wr2 => ∃ m j : Nat, j ≤ K ∧ m ≤ f0 + K ∧ Hid (m = f0 + j) ∧ kv = .int .i64 (m : Int) ∧ W1 = wr2) (fun kv _ => f0 + K - (intOf kv).toNat)
  case atStart => exact ⟨f0, 0, Nat.zero_le _, by omega, Lib.hid rfl, by congr 1; omega, rfl⟩
  case round =>
    obtain ⟨m, j, hj, hm, HM, rfl, hww⟩ := hrel
    subst hww
    have K0 := Lib.hid (HA1.out m (by omega))
    have HTJ := HT.out j hj
    rw [← HM.out] at HTJ
    have hfm : f0 ≤ m := by have := HM.out; omega
    by_cases hjk : j < K
    · rw [decide_eq_true hjk] at HTJ
      have hmk : m + 1 ≤ f0 + K := by have := HM.out; omega
      have hcm := HCL.out m (by omega)
      obtain ⟨z, hz⟩ : ∃ z, z = nth zs m := ⟨_, rfl⟩
      rw [← hz] at K0 HTJ hcm
      clear hz
      unfold txB at HTJ
      simp only [Bool.and_eq_true, decide_eq_true_eq] at HTJ
      obtain ⟨g0, g1, g2⟩ := HTJ
      have g3 : (z != 34) = true := by simpa using g2
      clear g2
      go_wp2_with (go_at_call 21; (with_reducible refine K0.out.mono ?_); rintro e w' ⟨rfl, hw⟩; subst hw)
      exact ⟨⟨m + 1, j + 1, by omega, by omega, Lib.hid (by have := HM.out; omega), by simp, (by first | rfl | trivial)⟩, by simp [intOf]; omega⟩
    · rw [decide_eq_false hjk] at HTJ
      obtain rfl : j = K := by omega
      rw [← HM.out] at HK
      have hzn : nth zs m ≠ 0 → m < n := fun h => by
        by_cases h2 : m < n
        · exact h2
        · exact absurd (nth_ge zs m (by rw [HLZ.out]; omega)) h
      have hcm : m < n → W1.cell? (xa.add m) = some (.int .u8 (nth zs m)) := HCL.out m
      obtain ⟨z, hz⟩ : ∃ z, z = nth zs m := ⟨_, rfl⟩
      rw [← hz] at K0 HTJ hcm hzn HK
      clear hz
      have htx : z < 32 ∨ (32 ≤ z ∧ 126 < z) ∨ z = 34 := by
        unfold txB at HTJ
        simp only [Bool.and_eq_false_iff, decide_eq_false_iff_not, ne_eq, Decidable.not_not] at HTJ
        omega
      clear HTJ HT hjk hj
      by_cases hq : z = 34
      · subst hq
        have hmn := hzn (by decide)
        have hcm := hcm hmn
        have HMN := Lib.hid hmn
        clear hzn htx
        by_cases h63 : 63 < j
        · rw [if_pos (.inr h63)] at HK
          have hdec : decide ((63 : Int) < (m : Int) - (p0 : Int) - 1) = true := by have := HM.out; simp; omega
          have HFIN := Lib.hid (HQX.out.fin 4 (p0 : Int))
          have HL : Hid (((W1.setCell ⟨p, 2, none⟩ (.int .i64 4)).setCell ⟨p, 3, none⟩ (.int .i64 (p0 : Int))).heap[p]? = some (.cells #[v, nv, .int .i64 4, .int .i64 (p0 : Int)] 29 (0, 0))) := Lib.hid HFIN.out.1
          have HO : Hid (((W1.setCell ⟨p, 2, none⟩ (.int .i64 4)).setCell ⟨p, 3, none⟩ (.int .i64 (p0 : Int))).heap[w.heap.size]? = some (.cells #[.slice none 0 0, .slice none 0 0, .int .i64 0, .int .i64 0] 29 (0, 0))) := Lib.hid HFIN.out.2.1
          have HSZ := Lib.hid (rsize v nv 4 (p0 : Int))
          have HON := Lib.hid (rone HQX.out 4 (p0 : Int))
          go_wp2_with (first
            | (go_at_call 21; (with_reducible refine K0.out.mono ?_); rintro e w' ⟨rfl, hw⟩; subst hw)
            | (with_reducible refine wpList_load_row rfl 29 _ rfl p rfl 29 #[v, nv, .int .i64 4, .int .i64 (p0 : Int)] (0, 0) _ HL.out Tryz.underlying29 rfl HSZ.out ?_)
            | (with_reducible refine wpList_store_row rfl 29 _ _ rfl w.heap.size #[v, nv, .int .i64 4, .int .i64 (p0 : Int)] rfl rfl 29 _ HO.out HSZ.out rfl HON.out ?_))
          exact bodyPost_ret (results_cell_row rfl _ _ w.heap.size 29 #[v, nv, .int .i64 4, .int .i64 (p0 : Int)] (0, 0) _ rfl (snsetRow_heap _ _ _ _ _ _ HO.out) Tryz.underlying29 rfl HSZ.out) rfl (told_err (X := { q0 with src := zs, at_ := m }) HSE.out HJ.out (by rw [HK.out, HQC.out.2.2.1]) HQC.out.1 (by decide) HQC.out.2.1 (HFIN.out.2.2 _))
        · rw [if_neg (by omega)] at HK
          have hdec : decide ((63 : Int) < (m : Int) - (p0 : Int) - 1) = false := by have := HM.out; simp; omega
          obtain ⟨A2, hA2⟩ : ∃ A2, (if c = f0 then some xa else (some xa).map (·.add f0)) = A2 := ⟨_, rfl⟩
          have hmf : m - f0 = j := by have := HM.out; omega
          have hsub : ∀ W, (Instr.slice 22 (.slice (some xa) n c) (some (.int .i64 ((p0 : Int) + 1))) (some (.int .i64 (m : Int))) none).run Tryz.prog W = .ok (.slice A2 j (c - f0)) W := fun W => by
            have h := sub_run (some xa) n c f0 m hfm (by omega) hcap W A2 hA2
            rw [hmf, show (f0 : Int) = (p0 : Int) + 1 by have := HFE.out; omega] at h
            exact h
          have hconv0 : ∀ V, Below w.heap.size w V → (convert 22 9 (.slice A2 j (c - f0))).run Tryz.prog V = .ok (.string (bs (chars ((zs.drop f0).take j)))) V := fun V hV => by
            have h := Rd.sub (HRD.out _ hV) (lo := f0) (hi := m) (c := c) hfm (by omega) hcap
            rw [hmf, hA2] at h
            have h2 := conv_rd h (c - f0)
            rw [strOf_bs] at h2
            exact h2
          have hbd : Below w.heap.size w W1.drew := HQX.out.b.drew
          have hconv := hconv0 _ hbd
          have hconv2 := hconv0 _ (Below.setCell (p := ⟨y, 0, none⟩) hbd (Nat.le_of_lt (Nat.lt_trans HQX.out.lt hpy)) (.int .i64 28))
          have hconv3 : (convert 22 9 (.slice A2 j (c - f0))).run Tryz.prog (W1.setCell ⟨y, 0, none⟩ (.int .i64 28)).drew = .ok (.string (bs (chars ((zs.drop f0).take j)))) (W1.setCell ⟨y, 0, none⟩ (.int .i64 28)).drew := hconv2
          clear hconv0 hbd
          obtain ⟨tx, htx⟩ : ∃ tx, tx = bs (chars ((zs.drop f0).take j)) := ⟨_, rfl⟩
          rw [← htx] at hconv hconv2 hconv3 HK
          have hjm : ((m : Int) - (p0 : Int) - 1 == 1) = decide (j = 1) := by
            rw [Bool.eq_iff_iff]
            simp
            have := HM.out
            have := HFE.out
            omega
          have HJM := Lib.hid hjm
          have HVF := Lib.hid (show (f0 : Nat) = p0 + 1 from HFE.out)
          clear htx hA2 hmf h63 hjm
          go_upto_region 59 with (go_at_call 21; (with_reducible refine K0.out.mono ?_); rintro e w' ⟨rfl, hw⟩; subst hw)
          clear hdec
          go_region_with (fail)
          all_goals
            refine ex_gen (fun V => V.heap[y]? = some (.cells #[.int .i64 28, .int .i64 (p0 : Int), .int .i32 0, .int .i64 0, .string tx] 32 (0, 0)) ∧ Below y wr V) ⟨qset_block (w := W1.setCell ⟨y, 0, none⟩ (.int .i64 28)) (i := 4) (u := .string tx) (qset_block (w := W1) (i := 0) (u := .int .i64 28) HYX.out), (Below.setCell (p := ⟨y, 4, none⟩) (Below.setCell (p := ⟨y, 0, none⟩) HBX.out (Nat.le_refl _) _) (Nat.le_refl _) _).drew⟩ ?_
            rintro W3 ⟨hy3, hb3⟩
            replace HYX := Lib.hid hy3
            replace HBX := Lib.hid hb3
            have HQX := Lib.hid (HQ.out.next (by have := HBX.out; rw [HYE.out] at this; exact this))
            clear hy3 hb3 hsub hconv hconv2 hconv3 y0 y2 y3 y4 t0 t2 t3 t4 c2 z2 c3 z3 hc HA1 HCL K0
            have y2 := (qblock_cell (i := 2) HYX.out rfl).1
            have t2 := (qblock_cell (i := 2) HYX.out rfl).2
            obtain ⟨xb, hxb, -, hcell⟩ := (HRD.out W3 HQX.out.b).2 (by omega)
            obtain rfl : xa = xb := Option.some.inj hxb
            have hc0 := hcell (p0 + 1) (by have := HMN.out; have := HFE.out; omega)
            have hc1 : W3.cell? ⟨xa.block, xa.off + (p0 + 1), none⟩ = some (.int .u8 (nth zs (p0 + 1))) := by
              unfold Addr.add at hc0
              rwa [if_neg (by omega)] at hc0
            clear hc0
            clear hcell hxb
            have hjm := HJM.out
            by_cases hj1 : j = 1
            · rw [decide_eq_true hj1] at hjm
              rw [if_pos hj1] at HK
              obtain ⟨z1, hz1⟩ : ∃ z1, z1 = nth zs (p0 + 1) := ⟨_, rfl⟩
              have hzb : 0 ≤ z1 ∧ z1 < 256 := by rw [hz1]; exact nth_mem (fun z => 0 ≤ z ∧ z < 256) zs HBY.out (by omega) _
              obtain ⟨hzb0, hzb1⟩ := hzb
              rw [HVF.out, ← hz1] at HK
              rw [← hz1] at hc1
              clear hz1 hj1
              go_upto_region 63 with (fail)
              have HYZ : Hid ((W3.setCell ⟨y, 2, none⟩ (.int .i32 z1)).heap[y]? = some (.cells #[.int .i64 28, .int .i64 (p0 : Int), .int .i32 z1, .int .i64 0, .string tx] 32 (0, 0))) := Lib.hid (by
                rw [(qset_block HYX.out)]; rfl)
              have HBZ : Hid (Below y wr (W3.setCell ⟨y, 2, none⟩ (.int .i32 z1))) := Lib.hid (Below.setCell (p := ⟨y, 2, none⟩) HBX.out (Nat.le_refl _) (.int .i32 z1))
              generalize W3.setCell ⟨y, 2, none⟩ (.int .i32 z1) = W2 at HYZ HBZ ⊢
              replace HYX := HYZ
              have HQX := Lib.hid (HQ.out.next (by have := HBZ.out; rw [HYE.out] at this; exact this))
              clear HYZ y2 t2
              have HSY := Lib.hid (ysize (28) ((p0 : Int)) (z1) (0) (tx))
              have HQ5 := Lib.hid (HQX.out.next ((Below.refl _ _).alloc (Nat.le_refl _) (.cells #[.int .i64 28, .int .i64 (p0 : Int), .int .i32 z1, .int .i64 0, .string tx] 32)))
              have HNW := Lib.hid (World.news_of_block (heap_alloc_new W2 (.cells #[.int .i64 28, .int .i64 (p0 : Int), .int .i32 z1, .int .i64 0, .string tx] 32)))
              have H3 : Hid (∀ x ∈ ([.int .i64 28, .int .i64 (p0 : Int), .int .i32 z1, .int .i64 0, .string tx] : List Value), x.oneCell' = true) := Lib.hid (by simp [Value.oneCell'])
              have HB5 := Lib.hid (show w.heap.size + 1 ≤ (W2.alloc (.cells #[.int .i64 28, .int .i64 (p0 : Int), .int .i32 z1, .int .i64 0, .string tx] 32)).heap.size from Nat.lt_of_lt_of_le HQ5.out.lt (Nat.le_of_lt HQ5.out.plt))
              have c0 := (HQX.out.cell 0 _ rfl).1
              go_wp2_with (first
                | (with_reducible refine wpList_load_row rfl 32 _ rfl y rfl 32 #[.int .i64 28, .int .i64 (p0 : Int), .int .i32 z1, .int .i64 0, .string tx] (0, 0) _ HYX.out Tryz.underlying32 rfl HSY.out ?_)
                | (at_builtin; refine Ev.wpList_append_w rfl (.tmp 235) (.tmp 237) 26 26 rfl 32 i1 _ 48 Tryz.underlying26 Tryz.underlying26 hi1 hy0 hy1 hy2 rfl rfl HQ5.out.all ⟨W2.heap.size, 0, none⟩ 1 1 [.int .i64 28, .int .i64 (p0 : Int), .int .i32 z1, .int .i64 0, .string tx] rfl rfl HNW.out H3.out (by omega) (by omega) (by omega) HB5.out _ rfl ?_; intro g9 f9 cap9 w9 hown hgrow hat9 hlt9; have HQ9 := Lib.hid (HQ5.out.app hown hgrow hat9); have c0 := (HQ5.out.app0 hgrow).1; have z0 := (HQ5.out.app0 hgrow).2; clear hown hgrow hat9))
              have HGF : Hid (getF s = { q0 with src := zs, at_ := m + 1, sym := 28, txt := tx, val := z1 }) := Lib.hid (by rw [HK.out])
              have hme := HGS.out (by rw [HGF.out]; exact (by show (28 : Int) ≠ 0; decide))
              rw [HGF.out] at hme
              have hm1 : a < m + 1 := hme.1
              have hm2 : m + 1 ≤ n := hme.2
              refine ⟨Lib.hid (far_step (F := { q0 with src := zs, at_ := m + 1, sym := 28, txt := tx, val := z1 }) (v := .slice (some ⟨g9, f9, none⟩) (k + 1) cap9) (nv := nv) HSE.out HJ.out HGF.out (by show (28 : Int) ≠ 0; decide) ?_), by simp [intOf]; omega⟩
              have HQ10 := HQ9.out
              rw [← HQC.out.2.1] at HQ10
              have e9 : (symC { q0 with src := zs, at_ := m + 1, sym := 28, txt := tx, val := z1 }).toList = [.int .i64 28, .int .i64 (p0 : Int), .int .i32 z1, .int .i64 0, .string tx] := by
                unfold symC
                simp only [HQC.out.2.2.1, HQC.out.2.2.2.1, HQC.out.2.2.2.2.1, HQC.out.2.2.2.2.2.1]
              rw [e9]
              exact HQ10
            · rw [decide_eq_false hj1] at hjm
              rw [if_neg hj1] at HK
              clear hj1 hc1
              go_upto_region 63 with (fail)
              have HYZ : Hid ((W3).heap[y]? = some (.cells #[.int .i64 28, .int .i64 (p0 : Int), .int .i32 0, .int .i64 0, .string tx] 32 (0, 0))) := Lib.hid (by
                exact HYX.out)
              have HBZ : Hid (Below y wr (W3)) := Lib.hid HBX.out
              generalize W3 = W2 at HYZ HBZ ⊢
              replace HYX := HYZ
              have HQX := Lib.hid (HQ.out.next (by have := HBZ.out; rw [HYE.out] at this; exact this))
              clear HYZ y2 t2
              have HSY := Lib.hid (ysize (28) ((p0 : Int)) (0) (0) (tx))
              have HQ5 := Lib.hid (HQX.out.next ((Below.refl _ _).alloc (Nat.le_refl _) (.cells #[.int .i64 28, .int .i64 (p0 : Int), .int .i32 0, .int .i64 0, .string tx] 32)))
              have HNW := Lib.hid (World.news_of_block (heap_alloc_new W2 (.cells #[.int .i64 28, .int .i64 (p0 : Int), .int .i32 0, .int .i64 0, .string tx] 32)))
              have H3 : Hid (∀ x ∈ ([.int .i64 28, .int .i64 (p0 : Int), .int .i32 0, .int .i64 0, .string tx] : List Value), x.oneCell' = true) := Lib.hid (by simp [Value.oneCell'])
              have HB5 := Lib.hid (show w.heap.size + 1 ≤ (W2.alloc (.cells #[.int .i64 28, .int .i64 (p0 : Int), .int .i32 0, .int .i64 0, .string tx] 32)).heap.size from Nat.lt_of_lt_of_le HQ5.out.lt (Nat.le_of_lt HQ5.out.plt))
              have c0 := (HQX.out.cell 0 _ rfl).1
              go_wp2_with (first
                | (with_reducible refine wpList_load_row rfl 32 _ rfl y rfl 32 #[.int .i64 28, .int .i64 (p0 : Int), .int .i32 0, .int .i64 0, .string tx] (0, 0) _ HYX.out Tryz.underlying32 rfl HSY.out ?_)
                | (at_builtin; refine Ev.wpList_append_w rfl (.tmp 235) (.tmp 237) 26 26 rfl 32 i1 _ 48 Tryz.underlying26 Tryz.underlying26 hi1 hy0 hy1 hy2 rfl rfl HQ5.out.all ⟨W2.heap.size, 0, none⟩ 1 1 [.int .i64 28, .int .i64 (p0 : Int), .int .i32 0, .int .i64 0, .string tx] rfl rfl HNW.out H3.out (by omega) (by omega) (by omega) HB5.out _ rfl ?_; intro g9 f9 cap9 w9 hown hgrow hat9 hlt9; have HQ9 := Lib.hid (HQ5.out.app hown hgrow hat9); have c0 := (HQ5.out.app0 hgrow).1; have z0 := (HQ5.out.app0 hgrow).2; clear hown hgrow hat9))
              have HGF : Hid (getF s = { q0 with src := zs, at_ := m + 1, sym := 28, txt := tx, val := q0.val }) := Lib.hid (by rw [HK.out])
              have hme := HGS.out (by rw [HGF.out]; exact (by show (28 : Int) ≠ 0; decide))
              rw [HGF.out] at hme
              have hm1 : a < m + 1 := hme.1
              have hm2 : m + 1 ≤ n := hme.2
              refine ⟨Lib.hid (far_step (F := { q0 with src := zs, at_ := m + 1, sym := 28, txt := tx, val := q0.val }) (v := .slice (some ⟨g9, f9, none⟩) (k + 1) cap9) (nv := nv) HSE.out HJ.out HGF.out (by show (28 : Int) ≠ 0; decide) ?_), by simp [intOf]; omega⟩
              have HQ10 := HQ9.out
              rw [← HQC.out.2.1] at HQ10
              have e9 : (symC { q0 with src := zs, at_ := m + 1, sym := 28, txt := tx, val := q0.val }).toList = [.int .i64 28, .int .i64 (p0 : Int), .int .i32 0, .int .i64 0, .string tx] := by
                unfold symC
                simp only [HQC.out.2.2.1, HQC.out.2.2.2.1, HQC.out.2.2.2.2.1, HQC.out.2.2.2.2.2.1]
              rw [e9]
              exact HQ10
      · rw [if_pos (.inl hq)] at HK
        have hq2 : (z != 34) = true := by simpa using hq
        have hnot : z < 32 ∨ (32 ≤ z ∧ 126 < z) := by omega
        clear hcm hzn htx hq
        rcases hnot with g | ⟨g, g2⟩
        ·
          have HFIN := Lib.hid (HQX.out.fin 4 (p0 : Int))
          have HL : Hid (((W1.setCell ⟨p, 2, none⟩ (.int .i64 4)).setCell ⟨p, 3, none⟩ (.int .i64 (p0 : Int))).heap[p]? = some (.cells #[v, nv, .int .i64 4, .int .i64 (p0 : Int)] 29 (0, 0))) := Lib.hid HFIN.out.1
          have HO : Hid (((W1.setCell ⟨p, 2, none⟩ (.int .i64 4)).setCell ⟨p, 3, none⟩ (.int .i64 (p0 : Int))).heap[w.heap.size]? = some (.cells #[.slice none 0 0, .slice none 0 0, .int .i64 0, .int .i64 0] 29 (0, 0))) := Lib.hid HFIN.out.2.1
          have HSZ := Lib.hid (rsize v nv 4 (p0 : Int))
          have HON := Lib.hid (rone HQX.out 4 (p0 : Int))
          go_wp2_with (first
            | (go_at_call 21; (with_reducible refine K0.out.mono ?_); rintro e w' ⟨rfl, hw⟩; subst hw)
            | (with_reducible refine wpList_load_row rfl 29 _ rfl p rfl 29 #[v, nv, .int .i64 4, .int .i64 (p0 : Int)] (0, 0) _ HL.out Tryz.underlying29 rfl HSZ.out ?_)
            | (with_reducible refine wpList_store_row rfl 29 _ _ rfl w.heap.size #[v, nv, .int .i64 4, .int .i64 (p0 : Int)] rfl rfl 29 _ HO.out HSZ.out rfl HON.out ?_))
          exact bodyPost_ret (results_cell_row rfl _ _ w.heap.size 29 #[v, nv, .int .i64 4, .int .i64 (p0 : Int)] (0, 0) _ rfl (snsetRow_heap _ _ _ _ _ _ HO.out) Tryz.underlying29 rfl HSZ.out) rfl (told_err (X := { q0 with src := zs, at_ := m }) HSE.out HJ.out (by rw [HK.out, HQC.out.2.2.1]) HQC.out.1 (by decide) HQC.out.2.1 (HFIN.out.2.2 _))
        ·
          have HFIN := Lib.hid (HQX.out.fin 4 (p0 : Int))
          have HL : Hid (((W1.setCell ⟨p, 2, none⟩ (.int .i64 4)).setCell ⟨p, 3, none⟩ (.int .i64 (p0 : Int))).heap[p]? = some (.cells #[v, nv, .int .i64 4, .int .i64 (p0 : Int)] 29 (0, 0))) := Lib.hid HFIN.out.1
          have HO : Hid (((W1.setCell ⟨p, 2, none⟩ (.int .i64 4)).setCell ⟨p, 3, none⟩ (.int .i64 (p0 : Int))).heap[w.heap.size]? = some (.cells #[.slice none 0 0, .slice none 0 0, .int .i64 0, .int .i64 0] 29 (0, 0))) := Lib.hid HFIN.out.2.1
          have HSZ := Lib.hid (rsize v nv 4 (p0 : Int))
          have HON := Lib.hid (rone HQX.out 4 (p0 : Int))
          go_wp2_with (first
            | (go_at_call 21; (with_reducible refine K0.out.mono ?_); rintro e w' ⟨rfl, hw⟩; subst hw)
            | (with_reducible refine wpList_load_row rfl 29 _ rfl p rfl 29 #[v, nv, .int .i64 4, .int .i64 (p0 : Int)] (0, 0) _ HL.out Tryz.underlying29 rfl HSZ.out ?_)
            | (with_reducible refine wpList_store_row rfl 29 _ _ rfl w.heap.size #[v, nv, .int .i64 4, .int .i64 (p0 : Int)] rfl rfl 29 _ HO.out HSZ.out rfl HON.out ?_))
          exact bodyPost_ret (results_cell_row rfl _ _ w.heap.size 29 #[v, nv, .int .i64 4, .int .i64 (p0 : Int)] (0, 0) _ rfl (snsetRow_heap _ _ _ _ _ _ HO.out) Tryz.underlying29 rfl HSZ.out) rfl (told_err (X := { q0 with src := zs, at_ := m }) HSE.out HJ.out (by rw [HK.out, HQC.out.2.2.1]) HQC.out.1 (by decide) HQC.out.2.1 (HFIN.out.2.2 _))
  )
theorem qscan_any {w : World} {A : Option Addr} {n c : Nat} {zs : List Int} (hr : Rd w w.heap.size .u8 A n zs) (hn : n ≤ 65535) (hcap : n ≤ c) (hb : ∀ x ∈ zs, 0 ≤ x ∧ x < 256) :
    Calls Tryz.prog 7 #[.slice A n c] w (Told11 { wsF 57 29 with src := zs } w) := qscanC.down w A n c zs hr hn hcap hb
end Go.Proofs.YthpdgghjaglhnaaGreatDoor
