/-
  The document's scanner: all symbols of a source: names.
-/
import Derived.Test.YthpdgghjaglhnaaGreatDoorSqE1
namespace Go.Proofs.YthpdgghjaglhnaaGreatDoor
open Go.ChangeShapes Go.WideShapes Go.ChangeAt Go.RowKit
open Ev (WRow)
set_option linter.unusedVariables false
set_option linter.unusedSimpArgs false
set_option maxRecDepth 100000 in
set_option maxHeartbeats 16000000 in
def qscanB := fun (HT : Later _) => qscanA (by
  clear HT
  refine ⟨?_⟩
  intro w n c zs hn hcap u HUS HA0 HFT HBY HLZ i0 hi0 hz0 hsz0 hby0 i1 hi1 hy0 hy1 hy2 W0 g f cap w2 p _ _ wr u5 u6 u7 u8 u9 u10 u11 u12 u13 u14 u15 u16 u17 u18 u29 u30 u31 u32 u33 u34 u35 u36 u37 u38 u39 u40 u41 u42 u43 u44 u45 u46 u47 u48 u49 u50 u51 u52 u53 u54 u55 u56 u57 u58 u59 u60 u61 u62 u63 u64 u65 u66 u67 u68 u69 u70 u71 u72 u73 u74 u75 u76 u77 u78 u79 u80 u81 u82 u83 u84 u85 u86 u87 u88 u89 u90 u91 u92 u93 u94 u95 u96 u97 u98 u99 u100 u101 u102 u103 u104 u105 u106 u107 u108 u109 u110 u111 u112 u113 u114 u115 u116 u117 u118 u119 u120 u121 u122 u123 u124 u125 u126 u127 u128 u129 u130 u131 u132 u133 u134 u135 u136 u137 u138 u139 u140 u141 u142 u143 u144 u145 u146 u147 u148 u149 u150 u151 u152 u153 u154 u155 u156 u157 u158 u159 u160 u161 u162 u163 u164 u165 u166 u167 u168 u169 u170 u171 u172 u173 u174 u175 u176 u177 u178 u179 u180 u181 u182 u183 u184 u185 u186 u187 u188 u189 u190 u191 u192 u193 u194 u195 u196 u197 u198 u199 u200 u201 u202 u203 u204 u205 u206 u207 u208 u209 u210 u211 u212 u213 u214 u215 u216 u217 u218 u219 u220 u221 u222 u223 u224 u225 u226 u227 u228 u229 u230 u231 u232 u233 u234 u235 u236 u237 u238 u239 k v nv _ s HQ HF HSE HJ HAT HSS a ha1 HGS HAE p0 hpn hk9 _ _ W1 HQX y hpy HBX HYX HYE hp9 xa HRD HBK _ _ _ HCL HA1 x0 hc q0 HQ0 HX0 HK HQS HQA HQC c2 z2 c3 z3 y0 y2 y3 y4 t0 t2 t3 t4 hl
  rw [hl, if_pos rfl] at HK
  obtain ⟨K, hK⟩ : ∃ K, K = tw ldB (zs.drop p0) := ⟨_, rfl⟩
  have hKn : p0 + K ≤ n := by have := tw_le ldB (zs.drop p0); rw [← hK, List.length_drop, HLZ.out] at this; omega
  have HKK : Hid (tw ldB (q0.src.drop q0.at_) = K) := Lib.hid (by rw [HQS.out, HQA.out]; exact hK.symm)
  have HT := Lib.hid fun j (hj : j ≤ K) => (hK ▸ tw_drop ldB ldB_0 zs p0 j (hK ▸ hj) : ldB (nth zs (p0 + j)) = decide (j < K))
  clear hK
  go_wp2_with (go_at_call 20; (with_reducible refine (qletter_any _ _).mono ?_); rintro e w' ⟨rfl, rfl⟩; rw [hl])
  go_loopw [8] (fun kv wr2 => ∃ m j : Nat, j ≤ K ∧ m ≤ p0 + K ∧ Hid (m = p0 + j) ∧ kv = .int .i64 (m : Int) ∧ W1 = wr2) (fun kv _ => p0 + K - (intOf kv).toNat)
  case atStart => exact ⟨p0, 0, Nat.zero_le _, by omega, Lib.hid rfl, rfl, rfl⟩
  case round =>
    obtain ⟨m, j, hj, hm, HM, rfl, hww⟩ := hrel
    subst hww
    have K0 := Lib.hid (HA1.out m (by omega))
    have HTJ := HT.out j hj
    rw [← HM.out] at HTJ
    have hfm : p0 ≤ m := by have := HM.out; omega
    obtain ⟨z, hz⟩ : ∃ z, z = nth zs m := ⟨_, rfl⟩
    rw [← hz] at K0 HTJ
    clear hz
    cases hlz : letB z with
    | true =>
      have hjk : j < K := by unfold ldB at HTJ; rw [hlz] at HTJ; simpa using HTJ.symm
      have hmk : m + 1 ≤ p0 + K := by have := HM.out; omega
      go_wp2_with (first
        | (go_at_call 21; (with_reducible refine K0.out.mono ?_); rintro e w' ⟨rfl, hw⟩; subst hw)
        | (go_at_call 20; (with_reducible refine (qletter_any _ _).mono ?_); rintro e w' ⟨rfl, rfl⟩; rw [hlz]))
      exact ⟨⟨m + 1, j + 1, by omega, by omega, Lib.hid (by have := HM.out; omega), by simp, (by first | rfl | trivial)⟩, by simp [intOf]; omega⟩
    | false =>
      cases hdz : digB z with
      | true =>
        have hjk : j < K := by unfold ldB at HTJ; rw [hlz, hdz] at HTJ; simpa using HTJ.symm
        have hmk : m + 1 ≤ p0 + K := by have := HM.out; omega
        go_wp2_with (first
          | (go_at_call 21; (with_reducible refine K0.out.mono ?_); rintro e w' ⟨rfl, hw⟩; subst hw)
          | (go_at_call 20; (with_reducible refine (qletter_any _ _).mono ?_); rintro e w' ⟨rfl, rfl⟩; rw [hlz])
          | (go_at_call 22; (with_reducible refine (qdigit_any _ _).mono ?_); rintro e w' ⟨rfl, rfl⟩; rw [hdz]))
        exact ⟨⟨m + 1, j + 1, by omega, by omega, Lib.hid (by have := HM.out; omega), by simp, (by first | rfl | trivial)⟩, by simp [intOf]; omega⟩
      | false =>
        obtain rfl : j = K := by unfold ldB at HTJ; rw [hlz, hdz] at HTJ; have := HTJ.symm; simp at this; omega
        clear HT HTJ hj
        by_cases h15 : 15 < j
        · have HKL := Lib.hid (nameF_long HKK.out h15)
          have hmj : 15 + p0 < m := by have := HM.out; omega
          have hdec : decide ((15 : Int) < (m : Int) - (p0 : Int)) = true := by simp; omega
          have HKE := Lib.hid (show getF s = markF { q0 with src := zs, at_ := m } 3 (p0 : Int) by rw [HK.out, HKL.out, HQA.out, ← HM.out, HQC.out.2.2.1, HQS.out])
          have HFIN := Lib.hid (HQX.out.fin 3 (p0 : Int))
          have HL : Hid (((W1.setCell ⟨p, 2, none⟩ (.int .i64 3)).setCell ⟨p, 3, none⟩ (.int .i64 (p0 : Int))).heap[p]? = some (.cells #[v, nv, .int .i64 3, .int .i64 (p0 : Int)] 29 (0, 0))) := Lib.hid HFIN.out.1
          have HO : Hid (((W1.setCell ⟨p, 2, none⟩ (.int .i64 3)).setCell ⟨p, 3, none⟩ (.int .i64 (p0 : Int))).heap[w.heap.size]? = some (.cells #[.slice none 0 0, .slice none 0 0, .int .i64 0, .int .i64 0] 29 (0, 0))) := Lib.hid HFIN.out.2.1
          have HSZ := Lib.hid (rsize v nv 3 (p0 : Int))
          have HON := Lib.hid (rone HQX.out 3 (p0 : Int))
          go_wp2_with (first
            | (go_at_call 21; (with_reducible refine K0.out.mono ?_); rintro e w' ⟨rfl, hw⟩; subst hw)
            | (go_at_call 20; (with_reducible refine (qletter_any _ _).mono ?_); rintro e w' ⟨rfl, rfl⟩; rw [hlz])
            | (go_at_call 22; (with_reducible refine (qdigit_any _ _).mono ?_); rintro e w' ⟨rfl, rfl⟩; rw [hdz])
            | (with_reducible refine wpList_load_row rfl 29 _ rfl p rfl 29 #[v, nv, .int .i64 3, .int .i64 (p0 : Int)] (0, 0) _ HL.out Tryz.underlying29 rfl HSZ.out ?_)
            | (with_reducible refine wpList_store_row rfl 29 _ _ rfl w.heap.size #[v, nv, .int .i64 3, .int .i64 (p0 : Int)] rfl rfl 29 _ HO.out HSZ.out rfl HON.out ?_))
          exact bodyPost_ret (results_cell_row rfl _ _ w.heap.size 29 #[v, nv, .int .i64 3, .int .i64 (p0 : Int)] (0, 0) _ rfl (snsetRow_heap _ _ _ _ _ _ HO.out) Tryz.underlying29 rfl HSZ.out) rfl (told_err (X := { q0 with src := zs, at_ := m }) HSE.out HJ.out HKE.out HQC.out.1 (by decide) HQC.out.2.1 (HFIN.out.2.2 _))
        · have hmj : m ≤ 15 + p0 := by have := HM.out; omega
          have hdec : decide ((15 : Int) < (m : Int) - (p0 : Int)) = false := by simp; omega
          obtain ⟨A2, hA2⟩ : ∃ A2, (if c = p0 then some xa else (some xa).map (·.add p0)) = A2 := ⟨_, rfl⟩
          have hmf : m - p0 = j := by have := HM.out; omega
          have hsub : ∀ W, (Instr.slice 22 (.slice (some xa) n c) (some (.int .i64 (p0 : Int))) (some (.int .i64 (m : Int))) none).run Tryz.prog W = .ok (.slice A2 j (c - p0)) W := fun W => by
            have h := sub_run (some xa) n c p0 m hfm (by omega) hcap W A2 hA2
            rw [hmf] at h
            exact h
          have hconv : (convert 22 9 (.slice A2 j (c - p0))).run Tryz.prog W1 = .ok (.string (bs (chars ((zs.drop p0).take j)))) W1 := by
            have h := Rd.sub (HRD.out _ HQX.out.b) (lo := p0) (hi := m) (c := c) hfm (by omega) hcap
            rw [hmf, hA2] at h
            have h2 := conv_rd h (c - p0)
            rw [strOf_bs] at h2
            exact h2
          obtain ⟨l, hlE⟩ : ∃ l, l = chars ((zs.drop p0).take j) := ⟨_, rfl⟩
          rw [← hlE] at hconv
          have HLE := Lib.hid (show chars ((q0.src.drop q0.at_).take j) = l by rw [HQS.out, HQA.out]; exact hlE.symm)
          have HEQ := Lib.hid fun l2 => qbs_eq l2 l
          have HNX := Lib.hid HQX.out.nm
          obtain ⟨gb, gf, gc, hnv, hgb0, hgb1⟩ := HQX.out.nm.form (by have := HF.out.n57; omega)
          subst hnv
          have c1 : W1.cell? ⟨p, 1, none⟩ = some (.slice (some ⟨gb, gf, none⟩) s.nms.length gc) := (HQX.out.cell 1 _ rfl).1
          have z1 : W1.frozen? ⟨p, 1, none⟩ = false := (HQX.out.cell 1 _ rfl).2
          have hL1 := HF.out.n57
          have hL2 := HF.out.n1
          obtain ⟨L, hL⟩ : ∃ L, L = s.nms.length := ⟨_, rfl⟩
          have HLL := Lib.hid hL
          rw [← hL] at hL1 hL2 c1 HQX HQ
          have hcN : ∀ j2, j2 < L → ∃ l2, s.nms[j2]? = some l2 ∧ W1.cell? ⟨gb, gf + j2, none⟩ = some (.string (bs l2)) := fun j2 h => by
            have h3 : j2 < s.nms.length := by omega
            refine ⟨s.nms[j2], List.getElem?_eq_getElem h3, ?_⟩
            rw [(HNX.out.cell j2 (by omega)).1, List.getElem?_map, List.getElem?_eq_getElem h3]; rfl
          have HCN := Lib.hid hcN
          clear hA2 hmf hlE hcN hL
          go_wp2_with (first
            | (go_at_call 21; (with_reducible refine K0.out.mono ?_); rintro e w' ⟨rfl, hw⟩; subst hw)
            | (go_at_call 20; (with_reducible refine (qletter_any _ _).mono ?_); rintro e w' ⟨rfl, rfl⟩; rw [hlz])
            | (go_at_call 22; (with_reducible refine (qdigit_any _ _).mono ?_); rintro e w' ⟨rfl, rfl⟩; rw [hdz]))
          clear hsub hconv hdec K0
          go_loopw [10, 11] (fun iv jv wr2 => ∃ j2 : Nat, j2 ≤ L ∧ jv = .int .i64 (j2 : Int) ∧ iv = .int .i64 (idV s.nms l j2) ∧ W1 = wr2) (fun _ jv _ => L - (intOf jv).toNat)
          case atStart => exact ⟨0, Nat.zero_le _, rfl, by unfold idV; simp, rfl⟩
          case round =>
            obtain ⟨j2, hj2, rfl, rfl, hww⟩ := hrel
            subst hww
            by_cases hlt : j2 < L
            · obtain ⟨l2, hl2, hc2⟩ := HCN.out j2 hlt
              have hq := HEQ.out l2
              by_cases hy2 : l2 = l
              · have HID := Lib.hid (idV_hit HF.out.nd (hy2 ▸ hl2))
                rw [decide_eq_true hy2] at hq
                clear hy2 hl2
                generalize idV s.nms l j2 = iv0
                go_wp2_with fail
                exact ⟨⟨j2 + 1, by omega, by simp, by rw [HID.out], (by first | rfl | trivial)⟩, by simp [intOf]; omega⟩
              · have HID := Lib.hid (idV_miss hl2 hy2)
                rw [decide_eq_false hy2] at hq
                clear hy2 hl2
                obtain ⟨iv0, hiv⟩ : ∃ iv0, iv0 = idV s.nms l j2 := ⟨_, rfl⟩
                rw [← hiv] at HID ⊢
                clear hiv
                go_wp2_with fail
                exact ⟨⟨j2 + 1, by omega, by simp, by rw [HID.out], (by first | rfl | trivial)⟩, by simp [intOf]; omega⟩
            · obtain rfl : j2 = L := by omega
              have hid : idV s.nms l j2 = if l ∈ s.nms then ((s.nms.idxOf l : Nat) : Int) else -1 := by
                unfold idV
                rw [HLL.out, List.take_length]
              rw [hid]
              clear hid hj2 hlt HCN HEQ
              by_cases hmem : l ∈ s.nms
              · rw [if_pos hmem]
                have hil := List.idxOf_lt_length_iff.2 hmem
                obtain ⟨i, hi⟩ : ∃ i, i = s.nms.idxOf l := ⟨_, rfl⟩
                rw [← hi] at hil ⊢
                have HKO := Lib.hid (nameF_ok (s := q0) (K := j) (i := i) (l := l) (N := s.nms) HKK.out h15 HLE.out HQC.out.2.2.2.2.2.2 (.inl ⟨by rw [HQC.out.2.1]; exact hmem, HQC.out.2.1.symm, by rw [HQC.out.2.1]; exact hi⟩))
                rw [HQA.out, ← HM.out, HQS.out] at HKO
                have hi7 : i ≤ 700 := by have := HLL.out; omega
                clear hi hmem hil
                by_cases h29 : (i : Int) < 29
                · rw [if_pos h29] at HKO
                  go_upto_region 63 with (fail)
                  have HYZ : Hid ((W1.setCell ⟨y, 0, none⟩ (.int .i64 (30 + (i : Int)))).heap[y]? = some (.cells #[.int .i64 (30 + (i : Int)), .int .i64 (p0 : Int), .int .i32 0, .int .i64 0, .string ⟨#[]⟩] 32 (0, 0))) := Lib.hid (by
                    rw [(qset_block HYX.out)]; rfl)
                  have HBZ : Hid (Below y wr (W1.setCell ⟨y, 0, none⟩ (.int .i64 (30 + (i : Int))))) := Lib.hid (Below.setCell (p := ⟨y, 0, none⟩) HBX.out (Nat.le_refl _) (.int .i64 (30 + (i : Int))))
                  generalize W1.setCell ⟨y, 0, none⟩ (.int .i64 (30 + (i : Int))) = W2 at HYZ HBZ ⊢
                  replace HYX := HYZ
                  have HQX := Lib.hid (HQ.out.next (by have := HBZ.out; rw [HYE.out] at this; exact this))
                  clear HYZ y0 y2 y3 y4 t0 t2 t3 t4 c2 z2 c3 z3 hc
                  have HSY := Lib.hid (ysize ((30 + (i : Int))) ((p0 : Int)) (0) (0) (⟨#[]⟩))
                  have HQ5 := Lib.hid (HQX.out.next ((Below.refl _ _).alloc (Nat.le_refl _) (.cells #[.int .i64 (30 + (i : Int)), .int .i64 (p0 : Int), .int .i32 0, .int .i64 0, .string ⟨#[]⟩] 32)))
                  have HNW := Lib.hid (World.news_of_block (heap_alloc_new W2 (.cells #[.int .i64 (30 + (i : Int)), .int .i64 (p0 : Int), .int .i32 0, .int .i64 0, .string ⟨#[]⟩] 32)))
                  have H3 : Hid (∀ x ∈ ([.int .i64 (30 + (i : Int)), .int .i64 (p0 : Int), .int .i32 0, .int .i64 0, .string ⟨#[]⟩] : List Value), x.oneCell' = true) := Lib.hid (by simp [Value.oneCell'])
                  have HB5 := Lib.hid (show w.heap.size + 1 ≤ (W2.alloc (.cells #[.int .i64 (30 + (i : Int)), .int .i64 (p0 : Int), .int .i32 0, .int .i64 0, .string ⟨#[]⟩] 32)).heap.size from Nat.lt_of_lt_of_le HQ5.out.lt (Nat.le_of_lt HQ5.out.plt))
                  have c0 := (HQX.out.cell 0 _ rfl).1
                  go_wp2_with (first
                    | (with_reducible refine wpList_load_row rfl 32 _ rfl y rfl 32 #[.int .i64 (30 + (i : Int)), .int .i64 (p0 : Int), .int .i32 0, .int .i64 0, .string ⟨#[]⟩] (0, 0) _ HYX.out Tryz.underlying32 rfl HSY.out ?_)
                    | (at_builtin; refine Ev.wpList_append_w rfl (.tmp 235) (.tmp 237) 26 26 rfl 32 i1 _ 48 Tryz.underlying26 Tryz.underlying26 hi1 hy0 hy1 hy2 rfl rfl HQ5.out.all ⟨W2.heap.size, 0, none⟩ 1 1 [.int .i64 (30 + (i : Int)), .int .i64 (p0 : Int), .int .i32 0, .int .i64 0, .string ⟨#[]⟩] rfl rfl HNW.out H3.out (by omega) (by omega) (by omega) HB5.out _ rfl ?_; intro g9 f9 cap9 w9 hown hgrow hat9 hlt9; have HQ9 := Lib.hid (HQ5.out.app hown hgrow hat9); have c0 := (HQ5.out.app0 hgrow).1; have z0 := (HQ5.out.app0 hgrow).2; clear hown hgrow hat9))
                  have HGF : Hid (getF s = { q0 with src := zs, at_ := m, nms := s.nms, sym := 30 + (i : Int) }) := Lib.hid (by rw [HK.out, HKO.out])
                  have hme := HGS.out (by rw [HGF.out]; exact (by show (30 : Int) + (i : Int) ≠ 0; omega))
                  rw [HGF.out] at hme
                  have hm1 : a < m := hme.1
                  have hm2 : m ≤ n := hme.2
                  refine ⟨Lib.hid (far_step (F := { q0 with src := zs, at_ := m, nms := s.nms, sym := 30 + (i : Int) }) (v := .slice (some ⟨g9, f9, none⟩) (k + 1) cap9) (nv := (.slice (some ⟨gb, gf, none⟩) j2 gc)) HSE.out HJ.out HGF.out (by show (30 : Int) + (i : Int) ≠ 0; omega) ?_), by simp [intOf]; omega⟩
                  have HQ10 := HQ9.out
                  have e9 : (symC { q0 with src := zs, at_ := m, nms := s.nms, sym := 30 + (i : Int) }).toList = [.int .i64 (30 + (i : Int)), .int .i64 (p0 : Int), .int .i32 0, .int .i64 0, .string ⟨#[]⟩] := by
                    unfold symC
                    simp only [HQC.out.2.2.1, HQC.out.2.2.2.1, HQC.out.2.2.2.2.1, HQC.out.2.2.2.2.2.1]
                  rw [e9]
                  exact HQ10
                · rw [if_neg h29] at HKO
                  go_upto_region 63 with (fail)
                  have HYZ : Hid (((W1.setCell ⟨y, 0, none⟩ (.int .i64 25)).setCell ⟨y, 3, none⟩ (.int .i64 (i : Int))).heap[y]? = some (.cells #[.int .i64 25, .int .i64 (p0 : Int), .int .i32 0, .int .i64 (i : Int), .string ⟨#[]⟩] 32 (0, 0))) := Lib.hid (by
                    rw [(qset_block (qset_block HYX.out))]; rfl)
                  have HBZ : Hid (Below y wr ((W1.setCell ⟨y, 0, none⟩ (.int .i64 25)).setCell ⟨y, 3, none⟩ (.int .i64 (i : Int)))) := Lib.hid (Below.setCell (p := ⟨y, 3, none⟩) (Below.setCell (p := ⟨y, 0, none⟩) HBX.out (Nat.le_refl _) (.int .i64 25)) (Nat.le_refl _) (.int .i64 (i : Int)))
                  generalize (W1.setCell ⟨y, 0, none⟩ (.int .i64 25)).setCell ⟨y, 3, none⟩ (.int .i64 (i : Int)) = W2 at HYZ HBZ ⊢
                  replace HYX := HYZ
                  have HQX := Lib.hid (HQ.out.next (by have := HBZ.out; rw [HYE.out] at this; exact this))
                  clear HYZ y0 y2 y3 y4 t0 t2 t3 t4 c2 z2 c3 z3 hc
                  have HSY := Lib.hid (ysize (25) ((p0 : Int)) (0) ((i : Int)) (⟨#[]⟩))
                  have HQ5 := Lib.hid (HQX.out.next ((Below.refl _ _).alloc (Nat.le_refl _) (.cells #[.int .i64 25, .int .i64 (p0 : Int), .int .i32 0, .int .i64 (i : Int), .string ⟨#[]⟩] 32)))
                  have HNW := Lib.hid (World.news_of_block (heap_alloc_new W2 (.cells #[.int .i64 25, .int .i64 (p0 : Int), .int .i32 0, .int .i64 (i : Int), .string ⟨#[]⟩] 32)))
                  have H3 : Hid (∀ x ∈ ([.int .i64 25, .int .i64 (p0 : Int), .int .i32 0, .int .i64 (i : Int), .string ⟨#[]⟩] : List Value), x.oneCell' = true) := Lib.hid (by simp [Value.oneCell'])
                  have HB5 := Lib.hid (show w.heap.size + 1 ≤ (W2.alloc (.cells #[.int .i64 25, .int .i64 (p0 : Int), .int .i32 0, .int .i64 (i : Int), .string ⟨#[]⟩] 32)).heap.size from Nat.lt_of_lt_of_le HQ5.out.lt (Nat.le_of_lt HQ5.out.plt))
                  have c0 := (HQX.out.cell 0 _ rfl).1
                  go_wp2_with (first
                    | (with_reducible refine wpList_load_row rfl 32 _ rfl y rfl 32 #[.int .i64 25, .int .i64 (p0 : Int), .int .i32 0, .int .i64 (i : Int), .string ⟨#[]⟩] (0, 0) _ HYX.out Tryz.underlying32 rfl HSY.out ?_)
                    | (at_builtin; refine Ev.wpList_append_w rfl (.tmp 235) (.tmp 237) 26 26 rfl 32 i1 _ 48 Tryz.underlying26 Tryz.underlying26 hi1 hy0 hy1 hy2 rfl rfl HQ5.out.all ⟨W2.heap.size, 0, none⟩ 1 1 [.int .i64 25, .int .i64 (p0 : Int), .int .i32 0, .int .i64 (i : Int), .string ⟨#[]⟩] rfl rfl HNW.out H3.out (by omega) (by omega) (by omega) HB5.out _ rfl ?_; intro g9 f9 cap9 w9 hown hgrow hat9 hlt9; have HQ9 := Lib.hid (HQ5.out.app hown hgrow hat9); have c0 := (HQ5.out.app0 hgrow).1; have z0 := (HQ5.out.app0 hgrow).2; clear hown hgrow hat9))
                  have HGF : Hid (getF s = { q0 with src := zs, at_ := m, nms := s.nms, sym := 25, id := (i : Int) }) := Lib.hid (by rw [HK.out, HKO.out])
                  have hme := HGS.out (by rw [HGF.out]; exact (by show (25 : Int) ≠ 0; decide))
                  rw [HGF.out] at hme
                  have hm1 : a < m := hme.1
                  have hm2 : m ≤ n := hme.2
                  refine ⟨Lib.hid (far_step (F := { q0 with src := zs, at_ := m, nms := s.nms, sym := 25, id := (i : Int) }) (v := .slice (some ⟨g9, f9, none⟩) (k + 1) cap9) (nv := (.slice (some ⟨gb, gf, none⟩) j2 gc)) HSE.out HJ.out HGF.out (by show (25 : Int) ≠ 0; decide) ?_), by simp [intOf]; omega⟩
                  have HQ10 := HQ9.out
                  have e9 : (symC { q0 with src := zs, at_ := m, nms := s.nms, sym := 25, id := (i : Int) }).toList = [.int .i64 25, .int .i64 (p0 : Int), .int .i32 0, .int .i64 (i : Int), .string ⟨#[]⟩] := by
                    unfold symC
                    simp only [HQC.out.2.2.1, HQC.out.2.2.2.1, HQC.out.2.2.2.2.1, HQC.out.2.2.2.2.2.1]
                  rw [e9]
                  exact HQ10
              · rw [if_neg hmem]
                by_cases h700 : 700 ≤ j2
                · have HKL := Lib.hid (nameF_full HKK.out h15 HLE.out (by rw [HQC.out.2.1]; exact hmem) (by rw [HQC.out.2.1, ← HLL.out]; exact h700))
                  have HKE := Lib.hid (show getF s = markF { q0 with src := zs, at_ := m } 62 (p0 : Int) by rw [HK.out, HKL.out, HQA.out, ← HM.out, HQC.out.2.2.1, HQS.out])
                  clear hmem
                  have HFIN := Lib.hid (HQX.out.fin 62 (p0 : Int))
                  have HL : Hid (((W1.setCell ⟨p, 2, none⟩ (.int .i64 62)).setCell ⟨p, 3, none⟩ (.int .i64 (p0 : Int))).heap[p]? = some (.cells #[v, (.slice (some ⟨gb, gf, none⟩) j2 gc), .int .i64 62, .int .i64 (p0 : Int)] 29 (0, 0))) := Lib.hid HFIN.out.1
                  have HO : Hid (((W1.setCell ⟨p, 2, none⟩ (.int .i64 62)).setCell ⟨p, 3, none⟩ (.int .i64 (p0 : Int))).heap[w.heap.size]? = some (.cells #[.slice none 0 0, .slice none 0 0, .int .i64 0, .int .i64 0] 29 (0, 0))) := Lib.hid HFIN.out.2.1
                  have HSZ := Lib.hid (rsize v (.slice (some ⟨gb, gf, none⟩) j2 gc) 62 (p0 : Int))
                  have HON := Lib.hid (rone HQX.out 62 (p0 : Int))
                  go_wp2_with (first
                    | fail
                    | (with_reducible refine wpList_load_row rfl 29 _ rfl p rfl 29 #[v, (.slice (some ⟨gb, gf, none⟩) j2 gc), .int .i64 62, .int .i64 (p0 : Int)] (0, 0) _ HL.out Tryz.underlying29 rfl HSZ.out ?_)
                    | (with_reducible refine wpList_store_row rfl 29 _ _ rfl w.heap.size #[v, (.slice (some ⟨gb, gf, none⟩) j2 gc), .int .i64 62, .int .i64 (p0 : Int)] rfl rfl 29 _ HO.out HSZ.out rfl HON.out ?_))
                  exact bodyPost_ret (results_cell_row rfl _ _ w.heap.size 29 #[v, (.slice (some ⟨gb, gf, none⟩) j2 gc), .int .i64 62, .int .i64 (p0 : Int)] (0, 0) _ rfl (snsetRow_heap _ _ _ _ _ _ HO.out) Tryz.underlying29 rfl HSZ.out) rfl (told_err (X := { q0 with src := zs, at_ := m }) HSE.out HJ.out HKE.out HQC.out.1 (by decide) HQC.out.2.1 (HFIN.out.2.2 _))
                · have HKO := Lib.hid (nameF_ok (s := q0) (K := j) (i := j2) (l := l) (N := s.nms ++ [l]) HKK.out h15 HLE.out HQC.out.2.2.2.2.2.2 (.inr ⟨by rw [HQC.out.2.1]; exact hmem, by rw [HQC.out.2.1, ← HLL.out]; omega, by rw [HQC.out.2.1], by rw [HQC.out.2.1]; exact HLL.out⟩))
                  rw [HQA.out, ← HM.out, HQS.out, if_neg (by omega)] at HKO
                  have HQ4 := Lib.hid (HQX.out.next ((Below.refl _ _).alloc (Nat.le_refl _) (.cells #[.string (bs l)] 9)))
                  have HNW := Lib.hid (World.news_of_block (heap_alloc_new W1 (.cells #[.string (bs l)] 9)))
                  have ONE : Hid (∀ x ∈ [Value.string (bs l)], x.oneCell' = true) := Lib.hid (by simp [Value.oneCell'])
                  have HB4 := Lib.hid (show w.heap.size + 1 ≤ (W1.alloc (.cells #[.string (bs l)] 9)).heap.size from Nat.lt_of_lt_of_le HQ4.out.lt (Nat.le_of_lt HQ4.out.plt))
                  have HNM4 : Hid (WRow (W1.alloc (.cells #[.string (bs l)] 9)) (w.heap.size + 1) 1 (.slice (some ⟨gb, gf, none⟩) j2 gc) j2 (s.nms.map fun l => .string (bs l))) := Lib.hid (by have := HQ4.out.nm; rw [← HLL.out] at this; exact this)
                  have HY4 : Hid ((W1.alloc (.cells #[.string (bs l)] 9)).heap[y]? = some (.cells #[.int .i64 0, .int .i64 (p0 : Int), .int .i32 0, .int .i64 0, .string ⟨#[]⟩] 32 (0, 0))) := Lib.hid (by
                    have hy9 : y < W1.heap.size := (Array.getElem?_eq_some_iff.1 HYX.out).1
                    rw [((Below.refl W1.heap.size W1).alloc (Nat.le_refl _) (.cells #[.string (bs l)] 9)).block y hy9]
                    exact HYX.out)
                  have hgy : gb < y := by
                    have := (HQ.out.nm.lt gb rfl).2
                    rw [HYE.out]; exact this
                  have hvy : ∀ z, v.ownBlock = some z → z < y := fun z e => by
                    have := (HQ.out.all.lt z e).2
                    rw [HYE.out]; exact this
                  have HVY := Lib.hid hvy
                  clear hmem hvy y0 y2 y3 y4 t0 t2 t3 t4 c2 z2 c3 z3 hc
                  go_upto_region 41 with (at_builtin; refine Ev.wpList_append_w rfl (.tmp 131) (.tmp 133) 27 27 rfl 9 i0 (.string (bs [])) 16 Tryz.underlying27 Tryz.underlying27 hi0 hz0 hsz0 hby0 rfl rfl HNM4.out ⟨W1.heap.size, 0, none⟩ 1 1 [.string (bs l)] rfl rfl HNW.out ONE.out (by omega) (by omega) (by omega) HB4.out _ rfl ?_; intro g8 f8 cap8 w8 hown hgrow hat8 hlt8; have HQ8 := Lib.hid (HQ4.out.nam (nms' := s.nms ++ [l]) (n' := j2 + 1) (by rw [List.length_append, ← HLL.out]; rfl) (by rw [List.map_append]; exact hown) hgrow hat8); have HGR8 := Lib.hid hgrow; have HAT8 := Lib.hid hat8; have c1 := (HQ4.out.nam0 hgrow).1; have z1 := (HQ4.out.nam0 hgrow).2; clear hown hgrow hat8)
                  have HY8 : Hid ((w8.setCell ⟨p, 1, none⟩ (.slice (some ⟨g8, f8, none⟩) (j2 + 1) cap8)).heap[y]? = some (.cells #[.int .i64 0, .int .i64 (p0 : Int), .int .i32 0, .int .i64 0, .string ⟨#[]⟩] 32 (0, 0))) := Lib.hid (by
                    have hy9 : y < (W1.alloc (.cells #[.string (bs l)] 9)).heap.size := (Array.getElem?_eq_some_iff.1 HY4.out).1
                    rw [qset_far (by omega), HGR8.out.block y hy9 (fun e => by
                      have : y = gb := Option.some.inj e
                      omega)]
                    exact HY4.out)
                  have hg8 : g8 ≠ y := by
                    rcases HAT8.out with e | e
                    · have : gb = g8 := Option.some.inj e
                      omega
                    · have hy9 : y < (W1.alloc (.cells #[.string (bs l)] 9)).heap.size := (Array.getElem?_eq_some_iff.1 HY4.out).1
                      omega
                  have hwy : w.heap.size < y := Nat.lt_trans HQX.out.lt hpy
                  clear HQ4 HNW ONE HB4 HNM4 HY4 HGR8 HAT8 c1 z1
                  generalize w8.setCell ⟨p, 1, none⟩ (.slice (some ⟨g8, f8, none⟩) (j2 + 1) cap8) = W8 at HQ8 HY8 ⊢
                  have y0 := (qblock_cell (i := 0) HY8.out rfl).1
                  have t0 := (qblock_cell (i := 0) HY8.out rfl).2
                  have y3 := (qblock_cell (i := 3) HY8.out rfl).1
                  have t3 := (qblock_cell (i := 3) HY8.out rfl).2
                  go_upto_region 63 with (fail)
                  have HYZ : Hid (((W8.setCell ⟨y, 0, none⟩ (.int .i64 25)).setCell ⟨y, 3, none⟩ (.int .i64 (j2 : Int))).heap[y]? = some (.cells #[.int .i64 25, .int .i64 (p0 : Int), .int .i32 0, .int .i64 (j2 : Int), .string ⟨#[]⟩] 32 (0, 0))) := Lib.hid (by
                    rw [qset_block (qset_block HY8.out)]; rfl)
                  have hv9 : v.ownBlock ≠ some y := fun e => by have := HVY.out y e; omega
                  have hn9 : (Value.slice (some ⟨g8, f8, none⟩) (j2 + 1) cap8).ownBlock ≠ some y := fun e => hg8 (Option.some.inj e)
                  have HQZ := Lib.hid ((HQ8.out.other (j := 0) (.int .i64 25) hwy (by omega) hv9 hn9).other (j := 3) (.int .i64 (j2 : Int)) hwy (by omega) hv9 hn9)
                  generalize (W8.setCell ⟨y, 0, none⟩ (.int .i64 25)).setCell ⟨y, 3, none⟩ (.int .i64 (j2 : Int)) = W2 at HYZ HQZ ⊢
                  replace HYX := HYZ
                  replace HQX := HQZ
                  clear HYZ HQZ y0 y3 t0 t3 hv9 hn9 hwy hg8 HQ8 HY8
                  have HSY := Lib.hid (ysize (25) ((p0 : Int)) (0) ((j2 : Int)) (⟨#[]⟩))
                  have HQ5 := Lib.hid (HQX.out.next ((Below.refl _ _).alloc (Nat.le_refl _) (.cells #[.int .i64 25, .int .i64 (p0 : Int), .int .i32 0, .int .i64 (j2 : Int), .string ⟨#[]⟩] 32)))
                  have HNW := Lib.hid (World.news_of_block (heap_alloc_new W2 (.cells #[.int .i64 25, .int .i64 (p0 : Int), .int .i32 0, .int .i64 (j2 : Int), .string ⟨#[]⟩] 32)))
                  have H3 : Hid (∀ x ∈ ([.int .i64 25, .int .i64 (p0 : Int), .int .i32 0, .int .i64 (j2 : Int), .string ⟨#[]⟩] : List Value), x.oneCell' = true) := Lib.hid (by simp [Value.oneCell'])
                  have HB5 := Lib.hid (show w.heap.size + 1 ≤ (W2.alloc (.cells #[.int .i64 25, .int .i64 (p0 : Int), .int .i32 0, .int .i64 (j2 : Int), .string ⟨#[]⟩] 32)).heap.size from Nat.lt_of_lt_of_le HQ5.out.lt (Nat.le_of_lt HQ5.out.plt))
                  have c0 := (HQX.out.cell 0 _ rfl).1
                  go_wp2_with (first
                    | (with_reducible refine wpList_load_row rfl 32 _ rfl y rfl 32 #[.int .i64 25, .int .i64 (p0 : Int), .int .i32 0, .int .i64 (j2 : Int), .string ⟨#[]⟩] (0, 0) _ HYX.out Tryz.underlying32 rfl HSY.out ?_)
                    | (at_builtin; refine Ev.wpList_append_w rfl (.tmp 235) (.tmp 237) 26 26 rfl 32 i1 _ 48 Tryz.underlying26 Tryz.underlying26 hi1 hy0 hy1 hy2 rfl rfl HQ5.out.all ⟨W2.heap.size, 0, none⟩ 1 1 [.int .i64 25, .int .i64 (p0 : Int), .int .i32 0, .int .i64 (j2 : Int), .string ⟨#[]⟩] rfl rfl HNW.out H3.out (by omega) (by omega) (by omega) HB5.out _ rfl ?_; intro g9 f9 cap9 w9 hown hgrow hat9 hlt9; have HQ9 := Lib.hid (HQ5.out.app hown hgrow hat9); have c0 := (HQ5.out.app0 hgrow).1; have z0 := (HQ5.out.app0 hgrow).2; clear hown hgrow hat9))
                  have HGF : Hid (getF s = { q0 with src := zs, at_ := m, nms := s.nms ++ [l], sym := 25, id := (j2 : Int) }) := Lib.hid (by rw [HK.out, HKO.out])
                  have hme := HGS.out (by rw [HGF.out]; exact (by show (25 : Int) ≠ 0; decide))
                  rw [HGF.out] at hme
                  have hm1 : a < m := hme.1
                  have hm2 : m ≤ n := hme.2
                  refine ⟨Lib.hid (far_step (F := { q0 with src := zs, at_ := m, nms := s.nms ++ [l], sym := 25, id := (j2 : Int) }) (v := .slice (some ⟨g9, f9, none⟩) (k + 1) cap9) (nv := (.slice (some ⟨g8, f8, none⟩) (j2 + 1) cap8)) HSE.out HJ.out HGF.out (by show (25 : Int) ≠ 0; decide) ?_), by simp [intOf]; omega⟩
                  have HQ10 := HQ9.out
                  have e9 : (symC { q0 with src := zs, at_ := m, nms := s.nms ++ [l], sym := 25, id := (j2 : Int) }).toList = [.int .i64 25, .int .i64 (p0 : Int), .int .i32 0, .int .i64 (j2 : Int), .string ⟨#[]⟩] := by
                    unfold symC
                    simp only [HQC.out.2.2.1, HQC.out.2.2.2.1, HQC.out.2.2.2.2.1, HQC.out.2.2.2.2.2.1]
                  rw [e9]
                  exact HQ10
  ) HT
end Go.Proofs.YthpdgghjaglhnaaGreatDoor
