/-
  MachineFresh: what NEW tells are unlike places behind the image, noughts, as long as there is room. No condition.
-/
import Derived.Test.YtlgdlaohfkgkfaaMacI
import Derived.Test.YtlgdlaohfkgkfaaRows
import Derived.WalkKit
import Derived.ProofKit
import Derived.OpenShut
import Derived.Deep.Cut
namespace Go.Proofs.Ytlgdlaohfkgkfaa.machineFresh
open Go.ChangeShapes Go.WideShapes Go.ChangeAt Go.RowKit
set_option linter.unusedVariables false
set_option linter.unusedSimpArgs false
set_option maxHeartbeats 8000000 in
set_option maxRecDepth 100000 in
theorem walk (a0 : Int) (a1 : Option Addr) (len1 cap1 : Nat) (z1 : List Int) (a2 : Int) (w : World) (w0 : (Lit.int .i64 a0).wf = true) (w1 : IsRow .u32 w a1 len1 cap1 z1) (w2 : (Lit.int .u32 a2).wf = true) :
    Calls Try.prog 3 #[.int .i64 a0, .slice a1 len1 cap1, .int .u32 a2] w fun e w' => e = .returned (.bool true) ∧ Below w.heap.size w w' := by
  obtain ⟨b0, b1⟩ := bd_i64 w0
  obtain ⟨f0, f1⟩ := bd_u32 w2
  have hl1 : len1 ≤ maxLen := Nat.le_trans w1.2.1 w1.2.2.1
  have W1 := Lib.hid w1
  have KN := Lib.hid known5_any
  have MY := Lib.hid (fun W => rmay5_any a0 b0 b1 W)
  clear w0 w1 w2
  by_cases hm : mayN a0 = true ∧ 256 ≤ a0 ∧ a0 ≤ 4096 ∧ len1 ≤ 20
  rotate_left
  · unfold maxLen at hl1
    have hm2 : mayN a0 = false ∨ a0 < 256 ∨ 4096 < a0 ∨ 20 < len1 := by
      by_cases h1 : mayN a0 = true
      · right
        by_cases h2 : 256 ≤ a0
        · by_cases h3 : a0 ≤ 4096
          · by_cases h4 : len1 ≤ 20
            · exact absurd ⟨h1, h2, h3, h4⟩ hm
            · omega
          · omega
        · omega
      · left; simpa using h1
    generalize mayN a0 = mb at *
    go_enter Try.func3, Try.ntmps3
    go_wp2_with (first | (go_at_call 5; (refine (KN.out _).mono ?_); rintro e w' ⟨rfl, hb⟩) | (go_at_call 4; (refine (MY.out _).mono ?_); rintro e w' ⟨rfl, rfl⟩))
    all_goals first
      | (go_ret; exact ⟨rfl, hb⟩)
      | (exfalso; rcases hm2 with h | h | h | h <;> simp_all <;> omega)
  · obtain ⟨hm1, hm2, hm3, hm4⟩ := hm
    have h4 : a0 % 4 = 0 := by unfold mayN at hm1; simp at hm1; exact hm1.2.2
    obtain ⟨n, rfl⟩ := Int.eq_ofNat_of_zero_le (show 0 ≤ a0 by omega)
    have MY2 : Hid (∀ W, Calls Try.prog 4 #[.int .i64 (n : Int)] W fun x w' => x = .returned (.bool true) ∧ W = w') := Lib.hid fun W => by have := MY.out W; rw [hm1] at this; exact this.mono fun _ _ h => ⟨h.1, h.2.symm⟩
    have HM1 := Lib.hid hm1
    have NS := Lib.hid (fun W => newst_any 10 (by omega) W)
    have n4 : n % 4 = 0 := by omega
    have N4 := Lib.hid n4
    have NE : Hid (∀ (e : Int) W, Calls Try.prog 9 #[.int .i64 e] W fun x w' => x = .returned (.int .i64 e) ∧ W = w') := Lib.hid fun e W => (num5_any e W).mono fun _ _ h => ⟨h.1, h.2.symm⟩
    clear hm1 MY h4 n4
    go_enter Try.func3, Try.ntmps3
    go_wp2_with (first
      | (go_at_call 4; (refine (MY2.out _).mono ?_); rintro e w' ⟨rfl, rfl⟩)
      | (go_at_call 6; (refine (NS.out _).mono ?_); rintro e v1 ⟨q, rfl, hq, hb1⟩; have HQ := Lib.hid hq; have HB1 := Lib.hid hb1; clear hq hb1)
      | (go_at_call 8; (refine (words17_any _ _ (fun j v hv => by rw [Nat.zero_add, cell_of_row _ _ _ _ _ _ (heap_alloc_last _ _), List.getElem?_toArray]; exact hv)).mono ?_); rintro e v2 ⟨A, c, rfl, hrd, hb2⟩; have HRD := Lib.hid hrd; have HB2 := Lib.hid (((mbelow1 v1 _).trans (hb2.mono (by simp)))); have HQ2 := Lib.hid (HQ.out.next HB2.out); clear hrd hb2)
      | (go_at_call 7; (refine (mnew_any n 1 c A [w17] v2 HQ2.out HRD.out (nth_one w17 w17_bd) (by omega) (by omega) N4.out (by omega)).mono ?_); rintro e v3 ⟨p, rfl, hst, hm, hcl, hb3⟩; have HM := Lib.hid hm; have HCL := Lib.hid hcl; have HB3 := Lib.hid hb3; clear hst hm hcl hb3)
      | (go_at_call 9; (refine (NE.out _ _).mono ?_); rintro e w' ⟨rfl, rfl⟩))
    have HB : Hid (Below w.heap.size w v3) := Lib.hid ((HB1.out.trans (HB2.out.mono HB1.out.size)).trans (HB3.out.mono (Nat.le_trans HB1.out.size HB2.out.size)))
    have hN : w.heap.size ≤ v2.heap.size := Nat.le_trans HB1.out.size HB2.out.size
    have HF : Hid (FrAt v3 v2.heap.size p n 4 4 a2 { mNew n 1 with cpu := { mcpu0 with r := upd (fun _ => 0) 14 n }, f := fun i => nth (bytesOf [w17]) i }) := Lib.hid ⟨HM.out, HCL.out, rfl, rfl, rfl, (by show upd (fun _ => 0) 14 (n : Int) 14 = _; exact upd_same _ _ _), wdF_first w17 (by decide), fun j hj hlt => by omega⟩
    clear HB1 HB2 HB3 HM HCL HRD HQ HQ2
    generalize v2.heap.size = N at *
    have HN := Lib.hid hN
    clear hN
    go_loopw [11] (fun i wr => ∃ (x : Nat) (m : Mc), i = .int .i64 (x : Int) ∧ 4 ≤ x ∧ x ≤ n ∧ Hid (x % 4 = 0) ∧ Hid (FrAt wr N p n 4 x a2 m) ∧ Hid (Below w.heap.size w wr)) (fun i _ => n - (intOf i).toNat)
    case atStart => exact ⟨4, _, rfl, by omega, by omega, Lib.hid rfl, HF, HB⟩
    case round =>
      clear HF HB
      obtain ⟨x, m, rfl, hx4, hxn, HX, HF, HB⟩ := hrel
      by_cases hlt : x < n
      · have HSW := Lib.hid (setword_any HF.out.mat x (by rw [HF.out.nn]; exact hlt) HX.out (by rw [HF.out.nn]; exact N4.out) a2 ⟨f0, by omega⟩)
        go_wp2_with (first
          | (go_at_call 10; (refine HSW.out.mono ?_); rintro e v4 ⟨rfl, hm4, hc4⟩; have HF4 := Lib.hid (HF.out.fill HX.out hx4 ⟨f0, by omega⟩ hm4 hc4); have HB4 := Lib.hid (HB.out.trans (hc4.below (Nat.le_trans HN.out HF.out.mat.bb) (Nat.le_trans HN.out HF.out.mat.bg) HB.out.size)); clear hm4 hc4)
          | (go_at_call 9; (refine (NE.out _ _).mono ?_); rintro e w9 ⟨rfl, rfl⟩))
        exact ⟨⟨x + 4, _, by simp, by omega, by have := HX.out; have := N4.out; omega, Lib.hid (by have := HX.out; omega), HF4, HB4⟩, by simp [intOf]; omega⟩
      · obtain rfl : n = x := by omega
        go_wp2_with fail
        have HFn := HF
        go_loopw [12, 13] (fun tp i wr => ∃ (t j : Nat) (m : Mc), tp = .int .i64 (t : Int) ∧ i = .int .i64 (j : Int) ∧ j ≤ len1 ∧ 4 ≤ t ∧ t ≤ n ∧ Hid (t % 4 = 0) ∧ Hid (FrAt wr N p n t n a2 m) ∧ Hid (Below w.heap.size w wr)) (fun _ i _ => len1 - (intOf i).toNat)
        case atStart => exact ⟨4, 0, m, rfl, rfl, by omega, by omega, by omega, Lib.hid rfl, HF, HB⟩
        case round =>
          clear HF HB HFn
          obtain ⟨t, j, m, rfl, rfl, hj, ht4, htn, HT, HF, HB⟩ := hrel
          by_cases hlt2 : j < len1
          · obtain ⟨pz, he, hpb, hz⟩ := W1.out.2.2.2.2.2 (by omega)
            subst he
            have hwz : (Lit.int .u32 (nth z1 j)).wf = true := by
              rw [nth_eq _ _ (by have := W1.out.1; omega)]
              exact W1.out.2.2.2.1 _ (List.getElem_mem _)
            obtain ⟨z0, z4⟩ := bd_u32 hwz
            obtain ⟨a, ha⟩ := Int.eq_ofNat_of_zero_le z0
            have HZC : Hid (∀ V, Below w.heap.size w V → V.cell? (pz.add j) = some (.int .u32 (a : Int))) := Lib.hid fun V hV => by
              rw [hV.cell (by rw [block_add]; exact hpb), hz j hlt2, ha]
            have ha2 : a < 4294967296 := by omega
            clear hwz z0 z4 ha hpb hz
            have HCP := Lib.hid (cpu_any HF.out.mat)
            go_upto_region 17 with (first
              | (go_at_call 11; (refine HCP.out.mono ?_); rintro e v4 ⟨rfl, hb4⟩; have HF4 := Lib.hid (HF.out.next hb4); have HB4 := Lib.hid (HB.out.trans (hb4.mono HB.out.size)); clear hb4)
              | (with_reducible refine wpList_store_row rfl 41 _ _ rfl v4.heap.size (cpuCells m.cpu) rfl rfl 41 (cpuCells mcpu0) (heap_alloc_last v4 _) (mcpu_size _) rfl (mcpu_one _) ?_; rw [World.setRow_alloc_new]))
            have hz4 : (v4.alloc (.cells (cpuCells m.cpu) 41)).cell? (pz.add j) = some (.int .u32 (a : Int)) := HZC.out _ (HB4.out.trans ((mbelow1 v4 _).mono HB4.out.size))
            have hbk := heap_alloc_last v4 (.cells (cpuCells m.cpu) 41)
            have HV5 := Lib.hid (mbelow1 v4 (.cells (cpuCells m.cpu) 41))
            clear HF HB
            generalize v4.alloc (.cells (cpuCells m.cpu) 41) = V5 at *
            have g0 : V5.cell? ⟨v4.heap.size, 0, none⟩ = some (.int .u32 (m.cpu.r 0)) := cell_at hbk 0
            have g21 : V5.cell? ⟨v4.heap.size, 21, none⟩ = some (.int .u32 m.cpu.pc) := cell_at hbk 21
            have fr0 : V5.frozen? ⟨v4.heap.size, 0, none⟩ = false := free_at hbk 0
            have fr21 : V5.frozen? ⟨v4.heap.size, 21, none⟩ = false := free_at hbk 21
            have HBK := Lib.hid hbk
            clear hbk
            go_upto_region 18 with (fail)
            have t3 := (((Turn.refl HBK.out).setCell 0 (.int .u32 (a : Int))).setCell 21 (.int .u32 0)).to (cs' := cpuCells { m.cpu with r := upd m.cpu.r 0 (a : Int), pc := 0 }) (by rw [reg_set _ 0 (by omega), set_pc])
            have HL := Lib.hid t3.at_
            have HV6 := Lib.hid (HV5.out.trans (t3.below (Nat.le_refl _) HV5.out.size))
            clear t3 g0 g21 fr0 fr21 hz4
            generalize (V5.setCell ⟨v4.heap.size, 0, none⟩ (.int .u32 (a : Int))).setCell ⟨v4.heap.size, 21, none⟩ (.int .u32 0) = V6 at *
            have HF6 := Lib.hid (HF4.out.next HV6.out)
            have HB6 := Lib.hid (HB4.out.trans (HV6.out.mono HB4.out.size))
            clear HF4 HB4 HV5 HV6 HBK
            generalize hc1 : ({ m.cpu with r := upd m.cpu.r 0 (a : Int), pc := 0 } : Cpu) = c1 at *
            have HC1 := Lib.hid hc1
            clear hc1
            have HSC := Lib.hid (setcpu_any HF6.out.mat (Nat.le_trans HF6.out.mat.bb (Nat.le_of_lt HF6.out.mat.lb)) c1)
            go_upto_region 21 with (first
              | (with_reducible refine wpList_load_row rfl 41 _ rfl v4.heap.size rfl 41 (cpuCells c1) (0, 0) _ HL.out Try.underlying41 rfl (mcpu_size _) ?_)
              | (go_at_call 12; (refine HSC.out.mono ?_); rintro e v7 ⟨rfl, hm7, hg7⟩; have HM7 := Lib.hid hm7; have HCL7 := Lib.hid (HF6.out.cl.chg hg7); have HB7 := Lib.hid (HB6.out.trans (hg7.below (Nat.le_trans HN.out HF6.out.mat.bb) (Nat.le_trans HN.out HF6.out.mat.bg) HB6.out.size)); clear hm7 hg7; have hz7 := HZC.out _ HB7.out)
              | (go_at_call 9; (refine (NE.out _ _).mono ?_); rintro e w9 ⟨rfl, rfl⟩))
            have hk0 : ((a : Int) + 3) / 4 * 4 = (((a + 3) / 4 * 4 : Nat) : Int) := by omega
            rw [hk0]
            have hk4 : (a + 3) / 4 * 4 % 4 = 0 := by omega
            have hkb : (a + 3) / 4 * 4 ≤ 4294967300 := by omega
            generalize hk : (a + 3) / 4 * 4 = k at *
            have HK := Lib.hid hk
            have HK4 := Lib.hid hk4
            clear hk hk4 hk0
            have HNS : Hid (N ≤ v7.heap.size) := Lib.hid (Nat.le_trans HM7.out.bb (Nat.le_of_lt HM7.out.lb))
            have hpc : c1.pc = 0 := by rw [← HC1.out]
            have hr0 : (nextC c1).r 0 = (a : Int) := by rw [← HC1.out]; show upd m.cpu.r 0 (a : Int) 0 = _; exact upd_same _ _ _
            have hr14 : (nextC c1).r 14 = (n : Int) := by rw [← HC1.out]; show upd m.cpu.r 0 (a : Int) 14 = _; rw [upd_other _ _ _ _ (by omega)]; exact HF6.out.r14
            by_cases hle : t + k ≤ n
            · generalize hR : ({ m with f := zerF m.f t k, cpu := ansC' (nextC c1) (t : Int), heap := ((t + k : Nat) : Int) } : Mc) = R at *
              have HR := Lib.hid hR
              clear hR
              have hrk : R.kind = 0 := by rw [← HR.out]; exact HF6.out.kk
              have HST : Hid (Calls Try.prog 13 #[.pointer (some ⟨p.b, 0, none⟩)] v7 fun e w' => e = .returned (.bool true) ∧ MAt w' N p R ∧ ClAt w' N p ∧ Chg p v7 w') :=
                Lib.hid (by
                  have := Step_new HM7.out HCL7.out HNS.out hpc HF6.out.w0 HF6.out.kk R (fun V hV => by
                    have h9 := allot_yes hV t a HF6.out.hh (by rw [HF6.out.nn]; exact htn) hr0 ha2 (by rw [hr14, HF6.out.nn]) (by rw [HK.out, HF6.out.nn]; exact hle)
                    rw [HK.out] at h9
                    rw [← HR.out]
                    exact h9)
                  rw [hrk] at this
                  exact this)
              have HRF : Hid (∀ V, MAt V N p R → ClAt V N p → FrAt V N p n (t + k) n a2 R) := Lib.hid fun V h1 h2 => by
                refine ⟨h1, h2, by rw [← HR.out]; exact HF6.out.nn, by rw [← HR.out], hrk, ?_, ?_, fun i hi hlt3 => ?_⟩
                · rw [← HR.out]
                  show upd (nextC c1).r 0 (t : Int) 14 = _
                  rw [upd_other _ _ _ _ (by omega)]; exact hr14
                · rw [← HR.out]
                  show wdF (zerF m.f t k) 0 = _
                  rw [wdF_zer_out _ _ _ _ (by omega)]; exact HF6.out.w0
                · rw [← HR.out]
                  show wdF (zerF m.f t k) (4 * i) = _
                  have h4t := HT.out
                  have h4k := HK4.out
                  by_cases c1 : 4 * i < t
                  · rw [wdF_zer_out _ _ _ _ (by omega), HF6.out.wd i hi hlt3, if_pos c1, if_pos (by omega)]
                  · by_cases c2 : 4 * i < t + k
                    · rw [wdF_zer_in _ _ _ _ (by omega) (by omega), if_pos c2]
                    · rw [wdF_zer_out _ _ _ _ (by omega), HF6.out.wd i hi hlt3, if_neg c1, if_neg c2]
              have hr00 : R.cpu.r 0 = (t : Int) := by rw [← HR.out]; show upd (nextC c1).r 0 (t : Int) 0 = _; exact upd_same _ _ _
              have hgt : decide ((t : Int) + (k : Int) > (n : Int)) = false := by simp; omega
              go_upto_region 24 with (first
                | (go_at_call 13; (refine HST.out.mono ?_); rintro e v8 ⟨rfl, hm8, hcl8, hg8⟩; have HF8 := Lib.hid (HRF.out _ hm8 hcl8); have HB8 := Lib.hid (HB7.out.trans (hg8.below (Nat.le_trans HN.out HM7.out.bb) (Nat.le_trans HN.out HM7.out.bg) HB7.out.size)); clear hm8 hcl8 hg8))
              clear HST HM7 HCL7 HF6 HB6 hz7
              have HCP8 := Lib.hid (cpu_any HF8.out.mat)
              have HHP : Hid (∀ V, Below v8.heap.size v8 V → Calls Try.prog 15 #[.pointer (some ⟨p.b, 0, none⟩)] V fun e w' => e = .returned (.int .u32 ((t + k : Nat) : Int)) ∧ V = w') := Lib.hid fun V hV => by
                have := heap_any (HF8.out.mat.next hV)
                rw [HF8.out.hh] at this
                exact this.mono fun _ _ h => ⟨h.1, h.2.symm⟩
              go_wp2_with (first
                | (go_at_call 11; (refine HCP8.out.mono ?_); rintro e v9 ⟨rfl, hb9⟩; have HF9 := Lib.hid (HF8.out.next hb9); have HB9 := Lib.hid (HB8.out.trans (hb9.mono HB8.out.size)); have HH9 := Lib.hid hb9; clear hb9; have hfd := field_regs R.cpu v9; have hix := index_regs R.cpu v9; rw [hr00] at hix)
                | (go_at_call 15; (refine (HHP.out _ HH9.out).mono ?_); rintro e w9 ⟨rfl, rfl⟩))
              clear hfd hix
              have hle2 : 4 ≤ t + k := by omega
              go_loopw [17] (fun i wr => ∃ x : Nat, i = .int .i64 (x : Int) ∧ 4 ≤ x ∧ x ≤ n ∧ Hid (x % 4 = 0) ∧ Hid (Below v9.heap.size v9 wr)) (fun i _ => n - (intOf i).toNat)
              case atStart => exact ⟨4, rfl, by omega, by omega, Lib.hid rfl, Lib.hid (Below.refl _ _)⟩
              case round =>
                obtain ⟨x, rfl, hx4, hxn, HX, HBW⟩ := hrel
                by_cases hlt3 : x < n
                · have HFW := Lib.hid (HF9.out.next HBW.out)
                  have hwv : wdF R.f x = if x < t + k then 0 else a2 := by
                    have h9 := HX.out
                    have := HF9.out.wd (x / 4) (by omega) (by omega)
                    rw [show 4 * (x / 4) = x by omega] at this
                    exact this
                  have hwd := word_any HFW.out.mat x (by rw [HF9.out.nn]; exact hlt3) HX.out (by rw [HF9.out.nn]; exact N4.out)
                  rw [hwv] at hwd
                  have HH3 : Hid (∀ V, Below wr.heap.size wr V → Calls Try.prog 15 #[.pointer (some ⟨p.b, 0, none⟩)] V fun e w' => e = .returned (.int .u32 ((t + k : Nat) : Int)) ∧ V = w') := Lib.hid fun V hV => HHP.out V (HH9.out.trans ((HBW.out.mono HH9.out.size).trans (hV.mono (Nat.le_trans HH9.out.size HBW.out.size))))
                  clear hwv
                  by_cases hxk : x < t + k
                  · rw [if_pos hxk] at hwd
                    have HWD := Lib.hid hwd
                    clear hwd
                    go_wp2_with (first
                      | (go_at_call 16; (refine HWD.out.mono ?_); rintro e v11 ⟨rfl, hb11⟩; have HB11 := Lib.hid hb11; clear hb11)
                      | (go_at_call 15; (refine (HH3.out _ HB11.out).mono ?_); rintro e w9 ⟨rfl, rfl⟩)
                      | (go_at_call 9; (refine (NE.out _ _).mono ?_); rintro e w9 ⟨rfl, rfl⟩))
                    exact ⟨⟨x + 4, by simp, by omega, by have := HX.out; have := N4.out; omega, Lib.hid (by have := HX.out; omega), Lib.hid (HBW.out.trans (HB11.out.mono HBW.out.size))⟩, by simp [intOf]; omega⟩
                  · rw [if_neg hxk] at hwd
                    have HWD := Lib.hid hwd
                    clear hwd
                    go_wp2_with (first
                      | (go_at_call 16; (refine HWD.out.mono ?_); rintro e v11 ⟨rfl, hb11⟩; have HB11 := Lib.hid hb11; clear hb11)
                      | (go_at_call 15; (refine (HH3.out _ HB11.out).mono ?_); rintro e w9 ⟨rfl, rfl⟩)
                      | (go_at_call 9; (refine (NE.out _ _).mono ?_); rintro e w9 ⟨rfl, rfl⟩))
                    exact ⟨⟨x + 4, by simp, by omega, by have := HX.out; have := N4.out; omega, Lib.hid (by have := HX.out; omega), Lib.hid (HBW.out.trans (HB11.out.mono HBW.out.size))⟩, by simp [intOf]; omega⟩
                · obtain rfl : n = x := by omega
                  have HH3 := Lib.hid (HHP.out wr (HH9.out.trans (HBW.out.mono HH9.out.size)))
                  go_wp2_with (go_at_call 15; (refine HH3.out.mono ?_); rintro e w9 ⟨rfl, rfl⟩)
                  exact ⟨⟨t + k, j + 1, R, by simp, by simp, by omega, by omega, hle, Lib.hid (by have := HT.out; have := HK4.out; omega), Lib.hid (HF9.out.next HBW.out), Lib.hid (HB9.out.trans (HBW.out.mono HB9.out.size))⟩, by simp [intOf]; omega⟩
            · have hno : n < t + k := by omega
              have HST : Hid (Calls Try.prog 13 #[.pointer (some ⟨p.b, 0, none⟩)] v7 fun e w' => e = .returned (.bool false) ∧ MAt w' N p { m with cpu := nextC c1, kind := 4, code := 0 } ∧ ClAt w' N p ∧ Chg p v7 w') :=
                Lib.hid (Step_new HM7.out HCL7.out HNS.out hpc HF6.out.w0 HF6.out.kk { m with cpu := nextC c1, kind := 4, code := 0 } (fun V hV => allot_no hV t a HF6.out.hh (by rw [HF6.out.nn]; exact htn) hr0 ha2 (by rw [hr14, HF6.out.nn]) (by rw [HK.out, HF6.out.nn]; exact hno)))
              have hgt : decide ((t : Int) + (k : Int) > (n : Int)) = true := by simp; omega
              go_wp2_with (first
                | (go_at_call 13; (refine HST.out.mono ?_); rintro e v8 ⟨rfl, hm8, hcl8, hg8⟩; have HM8 := Lib.hid hm8; have HB8 := Lib.hid (HB7.out.trans (hg8.below (Nat.le_trans HN.out HM7.out.bb) (Nat.le_trans HN.out HM7.out.bg) HB7.out.size)); clear hm8 hcl8 hg8; have HSP : Hid (Calls Try.prog 14 #[.pointer (some ⟨p.b, 0, none⟩)] v8 fun e w' => e = .returned (.agg #[.int .i64 4, .int .u32 0]) ∧ Below v8.heap.size v8 w') := Lib.hid (stopped_any HM8.out))
                | (go_at_call 14; (refine HSP.out.mono ?_); rintro e v9 ⟨rfl, hb9⟩; have HHP : Hid (Calls Try.prog 15 #[.pointer (some ⟨p.b, 0, none⟩)] v9 fun e w' => e = .returned (.int .u32 (t : Int)) ∧ v9 = w') := Lib.hid (by have := heap_any (HM8.out.next hb9); rw [show ({ m with cpu := nextC c1, kind := 4, code := 0 } : Mc).heap = (t : Int) from HF6.out.hh] at this; exact this.mono fun _ _ h => ⟨h.1, h.2.symm⟩); have HB9 := Lib.hid (HB8.out.trans (hb9.mono HB8.out.size)); clear hb9)
                | (go_at_call 15; (refine HHP.out.mono ?_); rintro e w9 ⟨rfl, rfl⟩)
                | (go_at_call 5; (refine (KN.out _).mono ?_); rintro e v10 ⟨rfl, hb10⟩; have HB10 := Lib.hid (HB9.out.trans (hb10.mono HB9.out.size)); clear hb10))
              go_ret
              exact ⟨rfl, HB10.out⟩
          · obtain rfl : j = len1 := by omega
            go_wp2_with (go_at_call 5; (refine (KN.out _).mono ?_); rintro e v10 ⟨rfl, hb10⟩; have HB10 := Lib.hid (HB.out.trans (hb10.mono HB.out.size)); clear hb10)
            go_ret
            exact ⟨rfl, HB10.out⟩
theorem own : ownKnob Try.prog.godebug = none := by kernel_rfl
theorem laidOut : laidOutB Try.prog = true := by kernel_rfl
set_option maxRecDepth 1000000 in
theorem contract (H : Type) (enc : TypeId × Value → H) (W : World) (base : Nat) (args : Array Value) (ds gs : List (DataW H)) (before : List MemPlace)
    (hval : ∀ (j : Nat) t v, Try.f3.params[j]? = some t → args[j]? = some v → Value.okWide Try.prog W .any base t v)
    (hW : DataW.Whole enc Try.prog Try.f3.params.toList Rows.machineFreshSpec.vars false W args.toList ds gs before) :
    Calls Try.prog 3 args W fun e W' => ∃ v, e = .returned v ∧ Rows.machineFreshSpec.post enc Try.prog Try.f3 false true false false W args v W' := by
  have hW' := hW
  obtain ⟨p, q, hA0, hV, rfl, hfz, hnd⟩ := hW
  have hA : DataW.TrodAll enc Try.prog W 0 (fun _ => true) true Try.f3.params.toList args.toList ds p := hA0
  rw [Try.params3] at hA hval
  obtain ⟨v0, vs0, d0, ds0, p0, q0, hargs, rfl, rfl, h0, r0⟩ := trodAll_cons hA
  obtain ⟨v1, vs1, d1, ds1, p1, q1, rfl, rfl, rfl, h1, r1⟩ := trodAll_cons r0
  obtain ⟨v2, vs2, d2, ds2, p2, q2, rfl, rfl, rfl, h2, r2⟩ := trodAll_cons r1
  obtain ⟨rfl, rfl, rfl⟩ := trodAll_nil r2
  obtain rfl : args = #[v0, v1, v2] := by cases args; simp_all
  obtain ⟨rfl, rfl⟩ := trodVars_none hV
  obtain ⟨a0, rfl, rfl, rfl, w0⟩ := open_int Try.underlying3 (hval 0 3 v0 rfl rfl) h0
  obtain ⟨a1, len1, cap1, rfl⟩ := okWide_slice Try.underlying22 (hval 1 22 v1 rfl rfl)
  have k1 := h1
  have lt1 : ∀ x ∈ p1, x.block < W.heap.size := by obtain ⟨m, hm⟩ := k1; exact DataW.trod_lt m _ _ _ hm
  obtain ⟨z1, w1⟩ := isRow_of Try.underlying22 Try.underlying23 (by kernel_rfl) h1
  obtain ⟨a2, rfl, rfl, rfl, w2⟩ := open_int Try.underlying23 (hval 2 23 v2 rfl rfl) h2
  clear hA0
  refine (walk a0 a1 len1 cap1 z1 a2 W w0 w1 w2).mono fun e W' ⟨he, bel⟩ => ?_
  subst he
  exact ⟨_, rfl, _, _, _, [], _, [], hW', trodAll_mk1 (shut_bool Try.underlying4 _), (trodAll_cons_mk (shut_int Try.underlying3 w0) (trodAll_cons_mk (Below.trod laidOut (by kernel_rfl) (of_decide_eq_true (by kernel_rfl)) k1 bel lt1) (trodAll_cons_mk (shut_int Try.underlying23 w2) trodAll_mk0))), rfl, bel.frame _, fun h => by cases h⟩
set_option maxRecDepth 100000 in
theorem lifted (os : Os) (started : os.Started) (H : Type) (enc : TypeId × Value → H) :
    ReturnsInHanded {} Try.checked os 3 .any (Rows.machineFreshSpec.pre6 enc Try.prog Try.f3 Rows.machineFreshRow.domain false) (Rows.machineFreshSpec.post enc Try.prog Try.f3 false true false false) := by
  refine returnsInHanded_of_change (C := Try.checked) own started (by kernel_rfl) Try.func3
    (ChangeSpec.witness6 (enc := enc) (C := Try.checked) false ⟨#[], #[.int .i64 0, .slice none 0 0, .int .u32 0], []⟩ 8 (by kernel_rfl) (by kernel_rfl) (by kernel_rfl) (by kernel_rfl)) ?_
  intro W base args ds gs before hval hW hcnd _
  exact contract H enc W base args ds gs before hval hW
theorem said : Rows.MachineFreshSaid :=
  OpenClaim.holds_of_wide 3 Try.f3 rfl rfl rfl rfl rfl rfl rfl ⟨rfl, rfl, rfl, rfl, rfl⟩ rfl rfl rfl rfl rfl (by kernel_rfl) Try.func3 (by kernel_rfl)
    (of_decide_eq_true (by kernel_rfl)) (by unfold Func.isWrapper; first | (rw [if_pos (by decide +kernel)]; kernel_rfl) | (rw [if_neg (by decide +kernel)]; exact ⟨rfl, rfl⟩))
    (fun os started H enc _ => lifted os started H enc)
theorem proved : Rows.MachineFreshSaid := said
end Go.Proofs.Ytlgdlaohfkgkfaa.machineFresh
