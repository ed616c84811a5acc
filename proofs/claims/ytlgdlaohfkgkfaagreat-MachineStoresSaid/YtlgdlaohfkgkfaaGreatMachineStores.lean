/-
  MachineStores: what is stored by a word, or a byte, stands there, and nothing else of memory changes; it is loaded again. No condition.
-/
import Derived.Test.YtlgdlaohfkgkfaaGreatMacQ
import Derived.Test.YtlgdlaohfkgkfaaGreatRows
import Derived.WalkKit
import Derived.ProofKit
import Derived.OpenShut
import Derived.Deep.Cut
namespace Go.Proofs.YtlgdlaohfkgkfaaGreat.machineStores
open Go.ChangeShapes Go.WideShapes Go.ChangeAt Go.RowKit
set_option linter.unusedVariables false
set_option linter.unusedSimpArgs false
theorem nth_bd {w : World} {a : Option Addr} {l c : Nat} {z : List Int} (h : IsRow .u32 w a l c z) (i : Nat) : 0 ≤ nth z i ∧ nth z i ≤ 4294967295 := by
  by_cases hi : i < z.length
  · rw [nth_eq _ _ hi]
    exact bd_u32 (h.2.2.2.1 _ (List.getElem_mem _))
  · rw [nth_ge _ _ (by omega)]; omega
theorem words_a {b : Bool} (j : Nat) (v : Value) (h : ([.int .i64 3, .bool false, .bool b, .int .i64 2, .int .i64 3, .int .i64 0, .int .i64 0, .int .i64 0, .int .i64 0, .int .i64 0, .int .i64 0] : List Value)[j]? = some v) : ([.int .i64 3, .bool false, .bool b, .int .i64 2, .int .i64 3, .int .i64 0, .int .i64 0, .int .i64 0, .int .i64 0, .int .i64 0, .int .i64 0, .int .i64 2, .bool false, .bool b, .int .i64 4, .int .i64 3, .int .i64 0, .int .i64 0, .int .i64 0, .int .i64 0, .int .i64 0, .int .i64 0] : List Value)[j]? = some v := by
  have := (List.getElem?_eq_some_iff.1 h).1
  match j, this with
  | 0, _ => exact h
  | 1, _ => exact h
  | 2, _ => exact h
  | 3, _ => exact h
  | 4, _ => exact h
  | 5, _ => exact h
  | 6, _ => exact h
  | 7, _ => exact h
  | 8, _ => exact h
  | 9, _ => exact h
  | 10, _ => exact h
theorem words_b {b : Bool} (j : Nat) (v : Value) (h : ([.int .i64 2, .bool false, .bool b, .int .i64 4, .int .i64 3, .int .i64 0, .int .i64 0, .int .i64 0, .int .i64 0, .int .i64 0, .int .i64 0] : List Value)[j]? = some v) : ([.int .i64 3, .bool false, .bool b, .int .i64 2, .int .i64 3, .int .i64 0, .int .i64 0, .int .i64 0, .int .i64 0, .int .i64 0, .int .i64 0, .int .i64 2, .bool false, .bool b, .int .i64 4, .int .i64 3, .int .i64 0, .int .i64 0, .int .i64 0, .int .i64 0, .int .i64 0, .int .i64 0] : List Value)[11 + j]? = some v := by
  have := (List.getElem?_eq_some_iff.1 h).1
  match j, this with
  | 0, _ => exact h
  | 1, _ => exact h
  | 2, _ => exact h
  | 3, _ => exact h
  | 4, _ => exact h
  | 5, _ => exact h
  | 6, _ => exact h
  | 7, _ => exact h
  | 8, _ => exact h
  | 9, _ => exact h
  | 10, _ => exact h
section
variable {w : World} {B : Nat} {p : Mp} {m : Mc}
theorem sw0 (h : MAt w B p m) (hn4 : m.n % 4 = 0) (x : Int) (hx : 0 ≤ x ∧ x ≤ 4294967295) : Calls Tryz.prog 13 #[.pointer (some ⟨p.b, 0, none⟩), .int .u32 0, .int .u32 x] w fun e w' => e = .returned (.int .i64 0) ∧ MAt w' B p { m with f := set4 m.f 0 x } ∧ Chg p w w' :=
  setword_any h 0 (by have := h.n0; omega) (by omega) hn4 x ⟨hx.1, by omega⟩
theorem sw4 (h : MAt w B p m) (hn4 : m.n % 4 = 0) (x : Int) (hx : 0 ≤ x ∧ x ≤ 4294967295) : Calls Tryz.prog 13 #[.pointer (some ⟨p.b, 0, none⟩), .int .u32 4, .int .u32 x] w fun e w' => e = .returned (.int .i64 0) ∧ MAt w' B p { m with f := set4 m.f 4 x } ∧ Chg p w w' :=
  setword_any h 4 (by have := h.n0; omega) (by omega) hn4 x ⟨hx.1, by omega⟩
end
set_option maxHeartbeats 8000000 in
set_option maxRecDepth 100000 in
theorem walk (a0 : Int) (a1 : Option Addr) (len1 cap1 : Nat) (z1 : List Int) (a2 : Int) (a3 : Int) (a4 : Bool) (w : World) (w0 : (Lit.int .i64 a0).wf = true) (w1 : IsRow .u32 w a1 len1 cap1 z1) (w2 : (Lit.int .u32 a2).wf = true) (w3 : (Lit.int .u32 a3).wf = true) :
    Calls Tryz.prog 4 #[.int .i64 a0, .slice a1 len1 cap1, .int .u32 a2, .int .u32 a3, .bool a4] w fun e w' => e = .returned (.bool true) ∧ Below w.heap.size w w' := by
  obtain ⟨b0, b1⟩ := bd_i64 w0
  obtain ⟨f0, f1⟩ := bd_u32 w2
  obtain ⟨x0, x1⟩ := bd_u32 w3
  have hl1 : len1 ≤ maxLen := Nat.le_trans w1.2.1 w1.2.2.1
  have W1 := Lib.hid w1
  have KN := Lib.hid known5_any
  have MY := Lib.hid (fun W => rmay5_any a0 b0 b1 W)
  clear w0 w1 w2 w3
  unfold maxLen at hl1
  by_cases hm : mayN a0 = true ∧ a0 ≤ 4096 ∧ (len1 : Int) ≤ a0 / 4 ∧ 3 ≤ len1 ∧ a2 < a0 ∧ 8 ≤ a2 ∧ (a4 = true ∨ a2 % 4 = 0)
  rotate_left
  · have hm2 : mayN a0 = false ∨ 4096 < a0 ∨ a0 / 4 < (len1 : Int) ∨ len1 < 3 ∨ a0 ≤ a2 ∨ a2 < 8 ∨ (a4 = false ∧ a2 % 4 ≠ 0) := by
      by_cases h1 : mayN a0 = true
      · by_cases h2 : a0 ≤ 4096
        · by_cases h3 : (len1 : Int) ≤ a0 / 4
          · by_cases h4 : 3 ≤ len1
            · by_cases h5 : a2 < a0
              · by_cases h6 : 8 ≤ a2
                · by_cases h7 : a4 = true ∨ a2 % 4 = 0
                  · exact absurd ⟨h1, h2, h3, h4, h5, h6, h7⟩ hm
                  · refine .inr (.inr (.inr (.inr (.inr (.inr ⟨?_, fun h => h7 (.inr h)⟩)))))
                    cases a4
                    · rfl
                    · exact absurd (.inl rfl) h7
                · omega
              · omega
            · omega
          · omega
        · omega
      · left; simpa using h1
    have htd : a0.tdiv 4 = a0 / 4 ∨ mayN a0 = false := by
      by_cases h0 : 0 ≤ a0
      · exact .inl (Int.tdiv_eq_ediv_of_nonneg h0)
      · exact .inr (by unfold mayN; simp; omega)
    generalize mayN a0 = mb at *
    cases a4
    all_goals
      go_enter Tryz.func4, Tryz.ntmps4
      go_wp2_with (first | (go_at_call 5; (refine (KN.out _).mono ?_); rintro e w' ⟨rfl, hb⟩) | (go_at_call 8; (refine (MY.out _).mono ?_); rintro e w' ⟨rfl, rfl⟩))
      all_goals first
        | (go_ret; exact ⟨rfl, hb⟩)
        | (exfalso; rcases htd with ht | ht <;> rcases hm2 with h | h | h | h | h | h | h <;> simp_all <;> omega)
  · obtain ⟨hm1, hm2, hm3, hm4, hm5, hm6, hm7⟩ := hm
    have h4 : a0 % 4 = 0 := by unfold mayN at hm1; simp at hm1; exact hm1.2.2
    have h64 : 64 ≤ a0 := by unfold mayN at hm1; simp at hm1; exact hm1.1
    obtain ⟨n, rfl⟩ := Int.eq_ofNat_of_zero_le (show 0 ≤ a0 by omega)
    obtain ⟨q, rfl⟩ := Int.eq_ofNat_of_zero_le f0
    have MY2 : Hid (∀ W, Calls Tryz.prog 8 #[.int .i64 (n : Int)] W fun x w' => x = .returned (.bool true) ∧ W = w') := Lib.hid fun W => by have := MY.out W; rw [hm1] at this; exact this
    have N4 : Hid (n % 4 = 0) := Lib.hid (by omega)
    have HQ4 : Hid (a4 = true ∨ q % 4 = 0) := Lib.hid (by rcases hm7 with h | h; exact .inl h; exact .inr (by omega))
    have hq0 : q < n := by omega
    have hq8 : 8 ≤ q := by omega
    have hn64 : 64 ≤ n := by omega
    have hn4 : n ≤ 4096 := by omega
    have hln : 4 * len1 ≤ n := by omega
    have NE := Lib.hid num5_any
    have hcond : (decide ((len1 : Int) > (n : Int) / 4)) = false := by simp; omega
    have hcond2 : ((!a4) && ((q : Int) % 4 != 0)) = false := by rcases HQ4.out with h | h <;> simp [h] <;> omega
    clear hm1 hm2 hm3 hm5 hm6 hm7 h4 h64 MY
    have hqm : a4 = false → ((q : Int) % 4 != 0) = false := fun h => by rcases HQ4.out with h1 | h1 <;> simp_all <;> omega
    obtain ⟨av, hav⟩ : ∃ av : Bool, av = a4 := ⟨_, rfl⟩
    cases a4
    all_goals
      (try replace hqm := hqm rfl)
      go_enter Tryz.func4, Tryz.ntmps4
      go_upto_region 8 with (first
        | (go_at_call 8; (refine (MY2.out _).mono ?_); rintro e w' ⟨rfl, rfl⟩)
        | (go_at_call 6; (refine (news_any _).mono ?_); rintro e v1 ⟨q0, mb, rfl, hqs, hns, hb1⟩; have HQS := Lib.hid hqs; have HNS := Lib.hid hns; have HB1 := Lib.hid hb1; clear hqs hns hb1)
        | (go_at_call 7; (refine (mnew_any n len1 cap1 a1 z1 v1 HQS.out ((W1.out.2.2.2.2.below HB1.out).more HB1.out.size) (nth_bd W1.out) hn64 (by omega) N4.out hln).mono ?_); rintro e v3 ⟨p, rfl, hst, hmm, hcl, hb3⟩; have HST := Lib.hid hst; have HM := Lib.hid hmm; have HCL := Lib.hid hcl; have HB3 := Lib.hid hb3; clear hst hmm hcl hb3)
        | (go_at_call 16; (refine (words2_any _ _ _ (fun j v hv => by rw [Nat.zero_add, cell_of_row _ _ _ _ _ _ (heap_alloc_last _ _), List.getElem?_toArray]; exact words_a j v hv) (fun j v hv => by rw [cell_of_row _ _ _ _ _ _ (heap_alloc_last _ _), List.getElem?_toArray]; exact words_b j v hv)).mono ?_); rintro e v4 ⟨g, c, rfl, hg1, hg2, hg3, hg4, hb4⟩; have HG := Lib.hid (And.intro hg1 (And.intro hg2 (And.intro hg3 hg4))); have HB4 := Lib.hid hb4; clear hg1 hg2 hg3 hg4 hb4)
        | (go_at_call 9; (refine (NE.out _ _).mono ?_); rintro e w' ⟨rfl, rfl⟩))
      have HB34 : Hid (Below v3.heap.size v3 v4) := Lib.hid ((mbelow1 v3 _).trans (HB4.out.mono (by simp)))
      have HM4 := Lib.hid (HM.out.next HB34.out)
      have HCL4 := Lib.hid (HCL.out.next HB34.out)
      have HNS3 := Lib.hid (HNS.out.next HB3.out)
      have HNS4 := Lib.hid (HNS3.out.next HB34.out)
      have hN : w.heap.size ≤ v1.heap.size := HB1.out.size
      have HBw : Hid (Below w.heap.size w v4) := Lib.hid ((HB1.out.trans (HB3.out.mono hN)).trans (HB34.out.mono (Nat.le_trans hN HB3.out.size)))
      obtain ⟨hg1, hg2, hg3, hg4⟩ := HG.out
      have hgv : v3.heap.size ≤ g := Nat.le_trans (by simp) hg1
      have hgb : g ≠ p.b := by have := HM.out.lb; omega
      have hgg : g ≠ p.g := by have := HM.out.lg; omega
      have c0 : v4.cell? ⟨g, 0, none⟩ = some (.int .u32 (wst av)) := by rw [hav]; exact hg3
      have c1 : v4.cell? ⟨g, 1, none⟩ = some (.int .u32 (wld av)) := by rw [hav]; exact hg4
      have hgl : g < v4.heap.size := hg2
      have HAV := Lib.hid hav
      have N4' : Hid ((mNew n len1).n % 4 = 0) := Lib.hid N4.out
      replace HM4 := Lib.hid HM4.out.drew
      replace HCL4 := Lib.hid (HCL4.out.next (Below.refl _ _).drew)
      replace HNS4 := Lib.hid (HNS4.out.next (Below.refl _ _).drew)
      replace HBw := Lib.hid HBw.out.drew
      have c0' : v4.drew.cell? ⟨g, 0, none⟩ = some (.int .u32 (wst av)) := c0
      have c1' : v4.drew.cell? ⟨g, 1, none⟩ = some (.int .u32 (wld av)) := c1
      have hgl' : g < v4.drew.heap.size := hgl
      obtain ⟨hq0b, hmbb⟩ := HNS.out.lt
      clear hg1 hg2 hg3 hg4 HG HB4 HB34 HM HCL HNS3 HB3 HB1 HQS HNS hgv hav
      go_wp2_with fail
      go_region_held3 (fun V => V.cell? ⟨g, 0, none⟩ = some (.int .u32 (wst av)) ∧ V.cell? ⟨g, 1, none⟩ = some (.int .u32 (wld av)))
        (first | exact ⟨by assumption, by assumption⟩ | go_keep)
        ((first
        | (go_at_call 13; (with_reducible refine (sw0 HM4.out N4'.out (wst av) (wst_bd av)).mono ?_); rintro e v5 ⟨rfl, hm5, hc5⟩; have HM5 := Lib.hid hm5; have HC5 := Lib.hid hc5; have hgl5 := Nat.lt_of_lt_of_le hgl' hc5.size; have c50 : v5.cell? ⟨g, 0, none⟩ = some (.int .u32 (wst av)) := (World.cell?_of_block (hc5.block g hgl' hgb hgg)).trans c0'; have c51 : v5.cell? ⟨g, 1, none⟩ = some (.int .u32 (wld av)) := (World.cell?_of_block (hc5.block g hgl' hgb hgg)).trans c1'; clear hm5 hc5 HM4)
        | (go_at_call 13; (with_reducible refine (sw4 HM5.out N4'.out (wld av) (wld_bd av)).mono ?_); rintro e v6 ⟨rfl, hm6, hc6⟩; have HM6 := Lib.hid hm6; have HC6 := Lib.hid (HC5.out.trans hc6); have c60 : v6.cell? ⟨g, 0, none⟩ = some (.int .u32 (wst av)) := (World.cell?_of_block (hc6.block g hgl5 hgb hgg)).trans c50; have c61 : v6.cell? ⟨g, 1, none⟩ = some (.int .u32 (wld av)) := (World.cell?_of_block (hc6.block g hgl5 hgb hgg)).trans c51; clear hm6 hc6 HM5)
        | (go_at_call 9; (refine (NE.out _ _).mono ?_); rintro e w' ⟨rfl, rfl⟩)))
      go_upto_region 10 with fail
      clear c60 c61 c0 c1 c0' c1' hgl hgl' hgb hgg
      try clear hgl5 c50 c51
      try clear HC5
      have hNb : v1.heap.size ≤ p.b := HM6.out.bb
      have hNg : v1.heap.size ≤ p.g := HM6.out.bg
      have hv6 : v4.drew.heap.size ≤ v6.heap.size := HC6.out.size
      have HCL6 := Lib.hid (HCL4.out.chg HC6.out)
      have HNS6 := Lib.hid (HNS4.out.keep (HC6.out.block q0 (HNS4.out.lt.1) (by omega) (by omega)) (HC6.out.block mb (HNS4.out.lt.2) (by omega) (by omega)))
      have HB6 := Lib.hid (HBw.out.trans (HC6.out.below (Nat.le_trans hN hNb) (Nat.le_trans hN hNg) HBw.out.size))
      have HX6 : ∃ m6 : Mc, Hid (MAt v6 v1.heap.size p m6) ∧ m6.n = n ∧ m6.kind = 0 ∧ m6.cpu.pc = 0 ∧ (∀ k, 0 ≤ m6.cpu.r k ∧ m6.cpu.r k ≤ 4294967295) ∧ wdF m6.f 0 = wst av ∧ wdF m6.f 4 = wld av := ⟨_, HM6, rfl, rfl, rfl, fun k => by show 0 ≤ upd (fun _ => 0) 14 (n : Int) k ∧ upd (fun _ => 0) 14 (n : Int) k ≤ 4294967295; unfold upd; split <;> first | omega | (show (0 : Int) ≤ 0 ∧ (0 : Int) ≤ 4294967295; omega), by
          show wdF (set4 (set4 _ 0 (wst av)) 4 (wld av)) 0 = _
          rw [wdF_set4_other _ _ _ _ (by omega), wdF_set4_same _ _ _ ⟨(wst_bd av).1, by have := (wst_bd av).2; omega⟩], by
          show wdF (set4 (set4 _ 0 (wst av)) 4 (wld av)) 4 = _
          rw [wdF_set4_same _ _ _ ⟨(wld_bd av).1, by have := (wld_bd av).2; omega⟩]⟩
      obtain ⟨m6, HN6, e1, e2, e3, e4, e5, e6⟩ := HX6
      have E6 := Lib.hid (And.intro e1 (And.intro e2 (And.intro e3 (And.intro e4 (And.intro e5 e6)))))
      clear e1 e2 e3 e4 e5 e6 HM6 HCL4 HNS4 HC6 HBw
      have HQN : Hid (q + 4 ≤ n ∨ av = true ∧ q < n) := Lib.hid (by
        have h1 := HQ4.out; have h2 := N4.out; have h3 := HAV.out
        rcases h1 with h1 | h1
        · exact .inr ⟨by first | exact h3 | (rw [h3]; exact h1), hq0⟩
        · exact .inl (by omega))
      have HQ4' : Hid (av = true ∨ q % 4 = 0) := Lib.hid (by
        have h1 := HQ4.out; have h3 := HAV.out
        rcases h1 with h1 | h1
        · exact .inl (by first | exact h3 | (rw [h3]; exact h1))
        · exact .inr h1)
      have HCPY := Lib.hid (copy_any HN6.out HCL6.out HST.out HNS6.out)
      go_upto_region 11 with (go_at_call 17; (refine HCPY.out.mono ?_); rintro e v7 ⟨cb, cg, ccap, rfl, hcb, hcg, hcm, hb7⟩; have HC7 := Lib.hid hcm; have HM7 := Lib.hid (HN6.out.next hb7); have HCL7 := Lib.hid (HCL6.out.next hb7); have HB7 := Lib.hid (HB6.out.trans (hb7.mono HB6.out.size)); clear hcm hb7)
      have hcbb : cb ≠ p.b ∧ cb ≠ p.g ∧ cg ≠ p.b ∧ cg ≠ p.g := by have h1 := HN6.out.lb; have h2 := HN6.out.lg; omega
      have HCN := Lib.hid hcbb
      clear hcbb hcb hcg HCPY HN6 HCL6 HNS6 HB6 hv6
      have HCP := Lib.hid (cpu_any HM7.out)
      go_upto_region 12 with (first
        | (go_at_call 18; (refine HCP.out.mono ?_); rintro e v8 ⟨rfl, hb8⟩; have HM8 := Lib.hid (HM7.out.next hb8); have HC8 := Lib.hid (HC7.out.next hb8); have HCL8 := Lib.hid (HCL7.out.next hb8); have HB8 := Lib.hid (HB7.out.trans (hb8.mono HB7.out.size)); clear hb8)
        | (with_reducible refine wpList_store_row rfl 53 _ _ rfl v8.heap.size (cpuCells m6.cpu) rfl rfl 53 (cpuCells mcpu0) (heap_alloc_last v8 _) (mcpu_size _) rfl (mcpu_one _) ?_; rw [World.setRow_alloc_new]))
      have hbk := heap_alloc_last v8 (.cells (cpuCells m6.cpu) 53)
      have HV9 := Lib.hid (mbelow1 v8 (.cells (cpuCells m6.cpu) 53))
      clear HM7 HC7 HCL7 HB7 HCP
      generalize v8.alloc (.cells (cpuCells m6.cpu) 53) = V9 at *
      have g2 : V9.cell? ⟨v8.heap.size, 2, none⟩ = some (.int .u32 (m6.cpu.r 2)) := cell_at hbk 2
      have g3 : V9.cell? ⟨v8.heap.size, 3, none⟩ = some (.int .u32 (m6.cpu.r 3)) := cell_at hbk 3
      have fr2 : V9.frozen? ⟨v8.heap.size, 2, none⟩ = false := free_at hbk 2
      have fr3 : V9.frozen? ⟨v8.heap.size, 3, none⟩ = false := free_at hbk 3
      have HBK := Lib.hid hbk
      clear hbk
      go_upto_region 13 with (fail)
      have t3 := (((Turn.refl HBK.out).setCell 2 (.int .u32 a3)).setCell 3 (.int .u32 (q : Int))).to (cs' := cpuCells { m6.cpu with r := upd (upd m6.cpu.r 2 a3) 3 (q : Int) }) (by rw [reg_set _ 2 (by omega), reg_set _ 3 (by omega)])
      have HL := Lib.hid t3.at_
      have HV10 := Lib.hid (HV9.out.trans (t3.below (Nat.le_refl _) HV9.out.size))
      clear t3 g2 g3 fr2 fr3
      generalize (V9.setCell ⟨v8.heap.size, 2, none⟩ (.int .u32 a3)).setCell ⟨v8.heap.size, 3, none⟩ (.int .u32 (q : Int)) = V10 at *
      have HM10 := Lib.hid (HM8.out.next HV10.out)
      have HC10 := Lib.hid (HC8.out.next HV10.out)
      have HCL10 := Lib.hid (HCL8.out.next HV10.out)
      have HB10 := Lib.hid (HB8.out.trans (HV10.out.mono HB8.out.size))
      clear HM8 HC8 HCL8 HB8 HV9 HV10 HBK
      generalize hc1 : ({ m6.cpu with r := upd (upd m6.cpu.r 2 a3) 3 (q : Int) } : Cpu) = c1 at *
      have HC1 := Lib.hid hc1
      clear hc1
      have HN10 : Hid (v1.heap.size ≤ V10.heap.size) := Lib.hid (Nat.le_trans HM10.out.bb (Nat.le_of_lt HM10.out.lb))
      have HSC := Lib.hid (setcpu_any HM10.out HN10.out c1)
      have r3 : c1.r 3 = (q : Int) := by rw [← HC1.out]; show upd (upd m6.cpu.r 2 a3) 3 (q : Int) 3 = _; exact upd_same _ _ _
      have r2 : c1.r 2 = a3 := by rw [← HC1.out]; show upd (upd m6.cpu.r 2 a3) 3 (q : Int) 2 = a3; rw [upd_other _ _ _ _ (by omega)]; exact upd_same _ _ _
      have rr : ∀ k, 0 ≤ c1.r k ∧ c1.r k ≤ 4294967295 := fun k => by
        rw [← HC1.out]
        show 0 ≤ upd (upd m6.cpu.r 2 a3) 3 (q : Int) k ∧ upd (upd m6.cpu.r 2 a3) 3 (q : Int) k ≤ 4294967295
        have := E6.out.2.2.2.1 k
        unfold upd
        split
        · omega
        · split <;> omega
      have HR1 := Lib.hid (And.intro r3 (And.intro r2 rr))
      have hpc : c1.pc = 0 := by rw [← HC1.out]; exact E6.out.2.2.1
      have HPC := Lib.hid hpc
      clear r3 r2 rr hpc HC1
      go_wp2_with (first
        | (with_reducible refine wpList_load_row rfl 53 _ rfl v8.heap.size rfl 53 (cpuCells c1) (0, 0) _ HL.out Tryz.underlying53 rfl (mcpu_size _) ?_)
        | (go_at_call 19; (refine HSC.out.mono ?_); rintro e v11 ⟨rfl, hm, hg⟩; have HM11 := Lib.hid hm; have HCL11 := Lib.hid (HCL10.out.chg hg); have HC11 := Lib.hid (HC10.out.keep hg.size (hg.block _ HC10.out.lb HCN.out.1 HCN.out.2.1) (hg.block _ HC10.out.lg HCN.out.2.2.1 HCN.out.2.2.2)); have HB11 := Lib.hid (HB10.out.trans (hg.below (Nat.le_trans hN hNb) (Nat.le_trans hN hNg) HB10.out.size)); have HN11 : Hid (v1.heap.size ≤ v11.heap.size) := Lib.hid (Nat.le_trans HN10.out hg.size); clear hm hg)
        | (go_at_call 9; (refine (NE.out _ _).mono ?_); rintro e w9 ⟨rfl, rfl⟩)
        | (go_at_call 20; (refine (Step_st HM11.out HCL11.out HN11.out E6.out.2.1 HPC.out q av HR1.out.2.2 HR1.out.1 E6.out.2.2.2.2.1 (by rw [E6.out.1]; exact HQN.out) HQ4'.out).mono ?_); rintro e v12 ⟨rfl, hm, hcl, hg⟩; have HM12 := Lib.hid hm; have HCL12 := Lib.hid hcl; have HC12 := Lib.hid (HC11.out.keep hg.size (hg.block _ HC11.out.lb HCN.out.1 HCN.out.2.1) (hg.block _ HC11.out.lg HCN.out.2.2.1 HCN.out.2.2.2)); have HB12 := Lib.hid (HB11.out.trans (hg.below (Nat.le_trans hN hNb) (Nat.le_trans hN hNg) HB11.out.size)); have HN12 : Hid (v1.heap.size ≤ v12.heap.size) := Lib.hid (Nat.le_trans HN11.out hg.size); clear hm hcl hg))
      have HKK : Hid (c1.r 2 = a3) := Lib.hid HR1.out.2.1
      have HU : Hid (∀ x, (savF m6.f q av (stV av (c1.r 2)) x = m6.f x ∧ (x < q ∨ q + 4 ≤ x ∨ av = true ∧ x ≠ q)) ∨ (x = q ∧ savF m6.f q av (stV av (c1.r 2)) x = a3 % 256) ∨ (av = false ∧ x = q + 1 ∧ savF m6.f q av (stV av (c1.r 2)) x = a3 / 256 % 256) ∨ (av = false ∧ x = q + 2 ∧ savF m6.f q av (stV av (c1.r 2)) x = a3 / 65536 % 256) ∨ (av = false ∧ x = q + 3 ∧ savF m6.f q av (stV av (c1.r 2)) x = a3 / 16777216 % 256)) := Lib.hid (by rw [HKK.out]; exact savF_cases m6.f q av a3 ⟨x0, x1⟩)
      have HLD : Hid (ldV (savF m6.f q av (stV av (c1.r 2))) q av = if av then a3 % 256 else a3) := Lib.hid (by rw [HKK.out]; exact ldV_sav m6.f q av a3 ⟨x0, x1⟩)
      clear HM10 HC10 HCL10 HB10 HL HM11 HCL11 HC11 HB11 HN11 HSC HN10
      go_loopw [18] (fun i wr => ∃ x : Nat, i = .int .u32 (x : Int) ∧ x ≤ n ∧ Hid (Below v12.heap.size v12 wr)) (fun i _ => n - (intOf i).toNat)
      case atStart => exact ⟨0, rfl, by omega, Lib.hid (Below.refl _ _)⟩
      case round =>
        obtain ⟨x, rfl, hxn, HBW⟩ := hrel
        by_cases hlt : x < n
        · obtain ⟨u, hu⟩ : ∃ u, u = savF m6.f q av (stV av (c1.r 2)) x := ⟨_, rfl⟩
          obtain ⟨y, hy⟩ : ∃ y, y = m6.f x := ⟨_, rfl⟩
          have HBY : Hid (∀ V, Below wr.heap.size wr V → Calls Tryz.prog 12 #[.pointer (some ⟨p.b, 0, none⟩), .int .u32 (x : Int)] V fun e w' => e = .returned (.tuple #[.int .u8 u, .int .i64 0]) ∧ V = w') := Lib.hid fun V hV => by
            rw [hu]; exact byte_any ((HM12.out.next HBW.out).next hV).memAt x (by show x < m6.n; rw [E6.out.1]; exact hlt)
          have HBZ : Hid (∀ V, Below wr.heap.size wr V → Calls Tryz.prog 12 #[.pointer (some ⟨cb, 0, none⟩), .int .u32 (x : Int)] V fun e w' => e = .returned (.tuple #[.int .u8 y, .int .i64 0]) ∧ V = w') := Lib.hid fun V hV => by
            rw [hy]; exact byte_any ((HC12.out.next HBW.out).next hV) x (by rw [E6.out.1]; exact hlt)
          have hc := HU.out x
          rw [← hu, ← hy] at hc
          clear hu hy
          have hw4 : IntKind.u32.wrap ((q : Int) + 4) = (q : Int) + 4 := by show ((q : Int) + 4) % 4294967296 = _; omega
          have hx1 : IntKind.u32.wrap ((x : Int) + 1) = ((x + 1 : Nat) : Int) := by show ((x : Int) + 1) % 4294967296 = _; omega
          have hc2 : (u = y ∧ (x < q ∨ q + 4 ≤ x ∨ av = true ∧ x ≠ q)) ∨ (x = q ∧ u = a3 % 256) ∨ (av = false ∧ q ≤ x ∧ (x : Int) < (q : Int) + 4 ∧ Hid ((u != a3 / 2 ^ (8 * (x - q)) % 256) = false)) := by
            rcases hc with h | h | ⟨h1, h2, h3⟩ | ⟨h1, h2, h3⟩ | ⟨h1, h2, h3⟩
            · exact .inl h
            · exact .inr (.inl h)
            · exact .inr (.inr ⟨h1, by omega, by omega, Lib.hid (by rw [show x - q = 1 by omega, h3]; simp)⟩)
            · exact .inr (.inr ⟨h1, by omega, by omega, Lib.hid (by rw [show x - q = 2 by omega, h3]; simp)⟩)
            · exact .inr (.inr ⟨h1, by omega, by omega, Lib.hid (by rw [show x - q = 3 by omega, h3]; simp)⟩)
          clear hc
          have hav := HAV.out
          rw [hav] at hc2
          clear hav
          rcases hc2 with ⟨rfl, ho⟩ | ⟨rfl, rfl⟩ | ⟨ha, hge, hl4, hv⟩
          all_goals first
            | (exfalso; cases ha; done)
            | skip
          all_goals try (have hv2 := hv.out)
          all_goals
            go_wp2_with (first
              | (go_at_call 12; (with_reducible refine (HBY.out _ (by first | exact Below.refl _ _ | exact (Below.refl _ _).drew | exact (Below.refl _ _).drew.drew)).mono ?_); rintro e w9 ⟨rfl, rfl⟩)
              | (go_at_call 12; (with_reducible refine (HBZ.out _ (by first | exact Below.refl _ _ | exact (Below.refl _ _).drew | exact (Below.refl _ _).drew.drew)).mono ?_); rintro e w9 ⟨rfl, rfl⟩)
              | (go_at_call 9; (refine (NE.out _ _).mono ?_); rintro e w9 ⟨rfl, rfl⟩))
          all_goals first
            | exact ⟨⟨x + 1, by simp, by omega, HBW⟩, by simp [intOf]; omega⟩
            | (exfalso; simp at ho; omega)
            | (exfalso; omega)
        · obtain rfl : n = x := by omega
          obtain ⟨wt, hwt⟩ : ∃ wt : Int, wt = if av then a3 % 256 else a3 := ⟨_, rfl⟩
          have hr4 : (ldC (nextC (nextC c1)) 4 (ldV (savF m6.f q av (stV av (c1.r 2))) q av)).r 4 = wt := by
            show upd (nextC (nextC c1)).r 4 (ldV (savF m6.f q av (stV av (c1.r 2))) q av) 4 = wt
            rw [upd_same, hwt]; exact HLD.out
          have hav := HAV.out
          rw [hav] at hwt
          clear hav
          simp only [Bool.false_eq_true, if_true, if_false] at hwt
          subst hwt
          have HSL := Lib.hid (Step_ld (HM12.out.next HBW.out) (HCL12.out.next HBW.out) (Nat.le_trans HN12.out HBW.out.size) E6.out.2.1 (by show w32 (c1.pc + 1) = 1; rw [HPC.out]; rfl) q av HR1.out.2.2 HR1.out.1 (by show wdF (savF m6.f q av (stV av (c1.r 2))) 4 = _; rw [wdF_sav _ _ _ _ _ (by omega)]; exact E6.out.2.2.2.2.2) (by show q + 4 ≤ m6.n ∨ av = true ∧ q < m6.n; rw [E6.out.1]; exact HQN.out) HQ4'.out)
          go_wp2_with (first
            | (go_at_call 20; (refine HSL.out.mono ?_); rintro e v13 ⟨rfl, hm, hcl, hg⟩; have HCP13 := Lib.hid (cpu_any hm); have HB13 := Lib.hid ((HB12.out.trans (HBW.out.mono HB12.out.size)).trans (hg.below (Nat.le_trans hN hNb) (Nat.le_trans hN hNg) (Nat.le_trans HB12.out.size HBW.out.size))); clear hm hcl hg)
            | (go_at_call 18; (refine HCP13.out.mono ?_); rintro e v14 ⟨rfl, hb⟩; have HB14 := Lib.hid (HB13.out.trans (hb.mono HB13.out.size)); clear hb; have hfd := field_regs (ldC (nextC (nextC c1)) 4 (ldV (savF m6.f q av (stV av (c1.r 2))) q av)) v14; have hix := index_regs4 (ldC (nextC (nextC c1)) 4 (ldV (savF m6.f q av (stV av (c1.r 2))) q av)) v14; rw [hr4] at hix)
            | (go_at_call 5; (refine (KN.out _).mono ?_); rintro e v15 ⟨rfl, hb⟩; have HB15 := Lib.hid (HB14.out.trans (hb.mono HB14.out.size)); clear hb))
          all_goals
            go_ret
            exact ⟨rfl, HB15.out⟩
theorem own : ownKnob Tryz.prog.godebug = none := by kernel_rfl
theorem laidOut : laidOutB Tryz.prog = true := by kernel_rfl
set_option maxRecDepth 1000000 in
theorem contract (H : Type) (enc : TypeId × Value → H) (W : World) (base : Nat) (args : Array Value) (ds gs : List (DataW H)) (before : List MemPlace)
    (hval : ∀ (j : Nat) t v, Tryz.f4.params[j]? = some t → args[j]? = some v → Value.okWide Tryz.prog W .any base t v)
    (hW : DataW.Whole enc Tryz.prog Tryz.f4.params.toList Rows.machineStoresSpec.vars false W args.toList ds gs before) :
    Calls Tryz.prog 4 args W fun e W' => ∃ v, e = .returned v ∧ Rows.machineStoresSpec.post enc Tryz.prog Tryz.f4 false true false false W args v W' := by
  have hW' := hW
  obtain ⟨p, q, hA0, hV, rfl, hfz, hnd⟩ := hW
  have hA : DataW.TrodAll enc Tryz.prog W 0 (fun _ => true) true Tryz.f4.params.toList args.toList ds p := hA0
  rw [Tryz.params4] at hA hval
  obtain ⟨v0, vs0, d0, ds0, p0, q0, hargs, rfl, rfl, h0, r0⟩ := trodAll_cons hA
  obtain ⟨v1, vs1, d1, ds1, p1, q1, rfl, rfl, rfl, h1, r1⟩ := trodAll_cons r0
  obtain ⟨v2, vs2, d2, ds2, p2, q2, rfl, rfl, rfl, h2, r2⟩ := trodAll_cons r1
  obtain ⟨v3, vs3, d3, ds3, p3, q3, rfl, rfl, rfl, h3, r3⟩ := trodAll_cons r2
  obtain ⟨v4, vs4, d4, ds4, p4, q4, rfl, rfl, rfl, h4, r4⟩ := trodAll_cons r3
  obtain ⟨rfl, rfl, rfl⟩ := trodAll_nil r4
  obtain rfl : args = #[v0, v1, v2, v3, v4] := by cases args; simp_all
  obtain ⟨rfl, rfl⟩ := trodVars_none hV
  obtain ⟨a0, rfl, rfl, rfl, w0⟩ := open_int Tryz.underlying3 (hval 0 3 v0 rfl rfl) h0
  obtain ⟨a1, len1, cap1, rfl⟩ := okWide_slice Tryz.underlying22 (hval 1 22 v1 rfl rfl)
  have k1 := h1
  have lt1 : ∀ x ∈ p1, x.block < W.heap.size := by obtain ⟨m, hm⟩ := k1; exact DataW.trod_lt m _ _ _ hm
  obtain ⟨z1, w1⟩ := isRow_of Tryz.underlying22 Tryz.underlying23 (by kernel_rfl) h1
  obtain ⟨a2, rfl, rfl, rfl, w2⟩ := open_int Tryz.underlying23 (hval 2 23 v2 rfl rfl) h2
  obtain ⟨a3, rfl, rfl, rfl, w3⟩ := open_int Tryz.underlying23 (hval 3 23 v3 rfl rfl) h3
  obtain ⟨a4, rfl, rfl, rfl⟩ := open_bool Tryz.underlying4 (hval 4 4 v4 rfl rfl) h4
  clear hA0
  refine (walk a0 a1 len1 cap1 z1 a2 a3 a4 W w0 w1 w2 w3).mono fun e W' ⟨he, bel⟩ => ?_
  subst he
  exact ⟨_, rfl, _, _, _, [], _, [], hW', trodAll_mk1 (shut_bool Tryz.underlying4 _), (trodAll_cons_mk (shut_int Tryz.underlying3 w0) (trodAll_cons_mk (Below.trod laidOut (by kernel_rfl) (of_decide_eq_true (by kernel_rfl)) k1 bel lt1) (trodAll_cons_mk (shut_int Tryz.underlying23 w2) (trodAll_cons_mk (shut_int Tryz.underlying23 w3) (trodAll_cons_mk (shut_bool Tryz.underlying4 a4) trodAll_mk0))))), rfl, bel.frame _, fun h => by cases h⟩
set_option maxRecDepth 100000 in
theorem lifted (os : Os) (started : os.Started) (H : Type) (enc : TypeId × Value → H) :
    ReturnsInHanded {} Tryz.checked os 4 .any (Rows.machineStoresSpec.pre6 enc Tryz.prog Tryz.f4 Rows.machineStoresRow.domain false) (Rows.machineStoresSpec.post enc Tryz.prog Tryz.f4 false true false false) := by
  refine returnsInHanded_of_change (C := Tryz.checked) own started (by kernel_rfl) Tryz.func4
    (ChangeSpec.witness6 (enc := enc) (C := Tryz.checked) false ⟨#[], #[.int .i64 0, .slice none 0 0, .int .u32 0, .int .u32 0, .bool false], []⟩ 8 (by kernel_rfl) (by kernel_rfl) (by kernel_rfl) (by kernel_rfl)) ?_
  intro W base args ds gs before hval hW hcnd _
  exact contract H enc W base args ds gs before hval hW
theorem said : Rows.MachineStoresSaid :=
  OpenClaim.holds_of_wide 4 Tryz.f4 rfl rfl rfl rfl rfl rfl rfl ⟨rfl, rfl, rfl, rfl, rfl⟩ rfl rfl rfl rfl rfl (by kernel_rfl) Tryz.func4 (by kernel_rfl)
    (of_decide_eq_true (by kernel_rfl)) (by unfold Func.isWrapper; first | (rw [if_pos (by decide +kernel)]; kernel_rfl) | (rw [if_neg (by decide +kernel)]; exact ⟨rfl, rfl⟩))
    (fun os started H enc _ => lifted os started H enc)
theorem proved : Rows.MachineStoresSaid := said
end Go.Proofs.YtlgdlaohfkgkfaaGreat.machineStores
