/-
  Bytes as hexadecimal digits, by the program and by the document.
-/
import Derived.Test.YtlodoilihminaaaGreatDoorScrH
import Derived.Test.YtlodoilihminaaaGreatDoorScrF
import Derived.Test.YtlodoilihminaaaGreatDoorConv
import Derived.Deep.AppendLies
import Derived.Laws.MakeOwn
namespace Go.Proofs.YtlodoilihminaaaGreatDoor
open Go.ChangeShapes Go.WideShapes Go.ChangeAt Go.RowKit
set_option linter.unusedVariables false
set_option linter.unusedSimpArgs false
theorem hexIx (n : Int) (h0 : 0 ≤ n) (h1 : n ≤ 15) (W : World) : (Instr.index 9 (.string { data := #[48, 49, 50, 51, 52, 53, 54, 55, 56, 57, 97, 98, 99, 100, 101, 102] }) (.int .u8 n)).run Tryz.prog W = .ok (.int .u8 (hxd n)) W := by
  have : n = 0 ∨ n = 1 ∨ n = 2 ∨ n = 3 ∨ n = 4 ∨ n = 5 ∨ n = 6 ∨ n = 7 ∨ n = 8 ∨ n = 9 ∨ n = 10 ∨ n = 11 ∨ n = 12 ∨ n = 13 ∨ n = 14 ∨ n = 15 := by omega
  rcases this with rfl | rfl | rfl | rfl | rfl | rfl | rfl | rfl | rfl | rfl | rfl | rfl | rfl | rfl | rfl | rfl <;> (show Sem.run _ _ _ = _; simp [hxd, go_sem, Instr.index]; rfl)
theorem and15b (b : Int) (h0 : 0 ≤ b) (h1 : b ≤ 255) : bits BinOp.and IntKind.u8 b 15 = b % 16 := by
  obtain ⟨n, rfl⟩ := Int.eq_ofNat_of_zero_le h0
  have : ∀ k : Fin 256, bits BinOp.and IntKind.u8 (k.val : Int) 15 = (k.val : Int) % 16 := by decide +kernel
  exact this ⟨n, by omega⟩
def hxV (b : List Int) : List Int := b.flatMap fun z => [hxd (z / 16), hxd (z % 16)]
theorem hxV_succ (b : List Int) (k : Nat) (h : k < b.length) : hxV (b.take (k + 1)) = hxV (b.take k) ++ [hxd (nth b k / 16), hxd (nth b k % 16)] := by
  unfold hxV
  rw [take_nth b k h, List.flatMap_append]
  rfl
theorem hxV_len (b : List Int) : (hxV b).length = 2 * b.length := by
  unfold hxV
  induction b with
  | nil => rfl
  | cons z b ih => rw [List.flatMap_cons, List.length_append, ih]; simp; omega
theorem hxT_chs (b : List Int) (h : b ≠ []) (hz : ∀ x ∈ b, 0 ≤ x ∧ x < 256) : hxT b = chs (hxV b) := by
  unfold hxT
  rw [if_neg (by simpa using h)]
  clear h
  induction b with
  | nil => rfl
  | cons z b ih =>
    obtain ⟨h0, h1⟩ := hz z (by simp)
    rw [List.flatMap_cons, ih (fun x hx => hz x (by simp [hx]))]
    unfold hxV chs
    rw [List.flatMap_cons, List.map_append]
    congr 1
    obtain ⟨m, rfl⟩ := Int.eq_ofNat_of_zero_le h0
    have e1 : ((m : Int) / 16) = ((m / 16 : Nat) : Int) := by omega
    have e2 : ((m : Int) % 16) = ((m % 16 : Nat) : Int) := by omega
    show hx2 (m : Int) = [UInt8.ofNat (hxd ((m : Int) / 16)).toNat, UInt8.ofNat (hxd ((m : Int) % 16)).toNat]
    rw [e1, e2, hxd_byte _ (by omega), hxd_byte _ (by omega)]
    rfl
theorem hx_infoU8 : (Tryz.prog.info? 5).map (fun i => (i.zero, i.size, i.bytes)) = some (some (.int .u8 0), 1, 1) := by kernel_rfl
set_option maxHeartbeats 4000000 in
set_option maxRecDepth 100000 in
theorem shex_any (A : Option Addr) (n c : Nat) (b : List Int) (w : World) (hr : Rd w w.heap.size .u8 A n b) (hz : ∀ x ∈ b, 0 ≤ x ∧ x < 256) (hn : n ≤ 1000000) :
    Calls Tryz.prog 50 #[.slice A n c] w fun e w' => e = .returned (.string (S (hxT b))) ∧ Below w.heap.size w w' := by
  obtain ⟨hl, hcell⟩ := hr
  have HC := Lib.hid hcell
  have HL := Lib.hid hl
  have HZ : Hid (∀ i, 0 ≤ nth b i ∧ nth b i < 256) := Lib.hid fun i => nth_mem (fun z => 0 ≤ z ∧ z < 256) b hz (by omega) i
  have HZM := Lib.hid hz
  clear hcell hl hz
  by_cases h0 : n = 0
  · subst h0
    have hb : hxT b = [45] := by
      have := HL.out
      unfold hxT
      cases b with
      | nil => rfl
      | cons z b => simp at this
    rw [hb]
    go_enter Tryz.func50, Tryz.ntmps50
    go_wp2_with fail
    go_ret
    exact ⟨rfl, Below.refl _ _⟩
  obtain ⟨i0, hi, hz0, hz1, hz2⟩ := info_parts hx_infoU8
  have hmk : ∀ u : World, (Instr.makeSlice 24 (.int .i64 0) (.int .i64 (2 * (n : Int)))).run Tryz.prog u =
      .ok (.slice (some ⟨u.heap.size, 0, none⟩) 0 (2 * n)) (u.alloc (.cells (madeCells #[.int .u8 0] (2 * n)) 5)) := fun u => by
    have h := run_make (P := Tryz.prog) u 24 5 i0 (.int .u8 0) Tryz.underlying24 hi hz0 .i64 .i64 0 (2 * (n : Int)) (by omega) (by omega) (by rw [hz2]; omega) (by omega)
    have e : (2 * (n : Int)).toNat = 2 * n := by omega
    rw [e] at h
    simpa [hz1, Value.cells] using h
  have hnz : ((n : Int) == 0) = false := by simp; omega
  go_enter Tryz.func50, Tryz.ntmps50
  go_wp2_with fail
  go_loopw [3, 15] (fun v i wr => ∃ j : Nat, j ≤ n ∧ i = .int .i64 j ∧ Hid (wr.ownsRow w.heap.size 5 1 v (2 * j) (valsOf .u8 (hxV (b.take j)))) ∧ Hid (Below w.heap.size w wr)) (fun _ i _ => n - (intOf i).toNat)
  case atStart =>
    exact ⟨0, Nat.zero_le _, rfl, Lib.hid (World.ownsRow_made _ _ _ (Nat.le_refl _) (by unfold maxLen; omega) (by simp [madeCells])), Lib.hid ((Below.refl _ _).alloc (Nat.le_refl _) _)⟩
  case round =>
    obtain ⟨j, hj, rfl, HO, HB⟩ := hrel
    by_cases hlt : j < n
    · obtain ⟨x, rfl, hx, hcell⟩ := HC.out (by omega)
      have hc : wr.cell? (x.add j) = some (.int .u8 (nth b j)) := by
        rw [HB.out.cell (by rw [block_add]; exact hx)]; exact hcell j hlt
      have hzb := HZ.out j
      have hsz := HB.out.size
      have HS := Lib.hid (hxV_succ b j (by rw [HL.out]; exact hlt))
      clear hcell
      generalize nth b j = z at *
      go_upto_region 7 with fail
      have hx1 := hexIx (z / 16) (by omega) (by omega)
      have hx2 := hexIx (z % 16) (by omega) (by omega)
      have ha := and15b z (by omega) (by omega)
      have hown := HO.out.alloc (.cells #[.int .u8 (hxd (z / 16)), .int .u8 (hxd (z % 16))] 5)
      have hnw : ∀ (jj : Nat) u, [Value.int .u8 (hxd (z / 16)), .int .u8 (hxd (z % 16))][jj]? = some u → (wr.drew.alloc (.cells #[.int .u8 (hxd (z / 16)), .int .u8 (hxd (z % 16))] 5)).cell? (Addr.add ⟨wr.heap.size, 0, none⟩ jj) = some u := World.news_of_block (cs := #[.int .u8 (hxd (z / 16)), .int .u8 (hxd (z % 16))]) (t := 5) (fr := (0, 0)) (heap_alloc_new wr.drew _)
      go_region_law (refine step_append_lies _ (by rfl) _ _ _ (by rfl) w.heap.size 5 i0 _ 1 1 Tryz.underlying24 hi hz0 hz1 hz2 rfl (by omega) _ (2 * j) (valsOf .u8 (hxV (b.take j))) (by rfl) hown ⟨wr.heap.size, 0, none⟩ 2 2 [.int .u8 (hxd (z / 16)), .int .u8 (hxd (z % 16))] (by rfl) (by rfl) hnw (by intro u hu; simp at hu; rcases hu with rfl | rfl <;> rfl) (by omega) (by unfold maxLen; omega) (by omega) (by simp; omega) _ rfl ?_; intro gg cap1 X1 hown1 hgrow hat hlt1; have HO1 := Lib.hid hown1; have HG1 := Lib.hid hgrow; clear hown1 hgrow hat)
      all_goals
        have HO2 : Hid (X1.ownsRow w.heap.size 5 1 (.slice (some ⟨gg, 0, none⟩) (2 * (j + 1)) cap1) (2 * (j + 1)) (valsOf .u8 (hxV (b.take (j + 1))))) := Lib.hid (by
          rw [HS.out]
          unfold valsOf
          rw [List.map_append]
          exact HO1.out)
        have HB2 : Hid (Below w.heap.size w X1) := Lib.hid ((HB.out.drew.alloc hsz _).grown HG1.out (by simp; omega) (fun g hg => (HO.out.lt g hg).1))
        clear HO1 HG1 hc hx1 hx2 ha hown hnw HO HB
        go_wp2_with fail
        exact ⟨⟨j + 1, by omega, by go_num, HO2, HB2⟩, by simp [intOf]; omega⟩
    · have hjn : j = n := by omega
      subst hjn
      have hb : hxT b = chs (hxV b) := hxT_chs b (by
        intro e
        have := HL.out
        rw [e] at this
        simp at this
        omega) HZM.out
      have hrow := HO.out
      rw [List.take_of_length_le (by rw [HL.out]; exact Nat.le_refl _)] at hrow
      obtain ⟨A2, c2, rfl, -, h2⟩ := rd_own hrow
      have hcv : (convert 24 9 (.slice A2 (2 * j) c2)).run Tryz.prog wr = .ok (.string (strOf (hxV b))) wr := conv_rd h2 c2
      rw [show strOf (hxV b) = S (chs (hxV b)) from strOf_list _] at hcv
      have HBB := Lib.hid HB.out
      have HX := Lib.hid hb
      clear hrow h2 HO hb
      go_wp2_with fail
      go_ret
      exact ⟨ret_str (by rw [HX.out]), HBB.out⟩
set_option maxHeartbeats 4000000 in
set_option maxRecDepth 100000 in
theorem rhex25_any (A : Option Addr) (n c : Nat) (b : List Int) (w : World) (hr : Rd w w.heap.size .u8 A n b) (hz : ∀ x ∈ b, 0 ≤ x ∧ x < 256) (hn : n ≤ 1000000) :
    Calls Tryz.prog 62 #[.slice A n c] w fun e w' => e = .returned (.string (S (hxT b))) ∧ Below w.heap.size w w' := by
  obtain ⟨hl, hcell⟩ := hr
  have HC := Lib.hid hcell
  have HL := Lib.hid hl
  have HZ : Hid (∀ i, 0 ≤ nth b i ∧ nth b i < 256) := Lib.hid fun i => nth_mem (fun z => 0 ≤ z ∧ z < 256) b hz (by omega) i
  have HZM := Lib.hid hz
  clear hcell hl hz
  obtain ⟨i0, hi, hz0, hz1, hz2⟩ := info_parts hx_infoU8
  go_enter Tryz.func62, Tryz.ntmps62
  go_wp2_with fail
  go_loopw [4, 5] (fun v i wr => ∃ j : Nat, j ≤ n ∧ i = .int .i64 j ∧ Hid (wr.ownsRow w.heap.size 5 1 v (2 * j) (valsOf .u8 (hxV (b.take j)))) ∧ Hid (Below w.heap.size w wr)) (fun _ i _ => n - (intOf i).toNat)
  case atStart =>
    exact ⟨0, Nat.zero_le _, rfl, Lib.hid (World.ownsRow_nil _ _ _ _), Lib.hid (Below.refl _ _)⟩
  case round =>
    obtain ⟨j, hj, rfl, HO, HB⟩ := hrel
    by_cases hlt : j < n
    · obtain ⟨x, rfl, hx, hcell⟩ := HC.out (by omega)
      have hc : wr.cell? (x.add j) = some (.int .u8 (nth b j)) := by
        rw [HB.out.cell (by rw [block_add]; exact hx)]; exact hcell j hlt
      have hzb := HZ.out j
      have hsz := HB.out.size
      have HS := Lib.hid (hxV_succ b j (by rw [HL.out]; exact hlt))
      clear hcell
      generalize nth b j = z at *
      have hx1 := hexIx (z / 16) (by omega) (by omega)
      have hx2 := hexIx (z % 16) (by omega) (by omega)
      have hq0 : z.tdiv 16 = z / 16 := Int.tdiv_eq_ediv_of_nonneg (by omega)
      have hq3 : z.tmod 16 = z % 16 := Int.tmod_eq_emod_of_nonneg (by omega)
      have hq1 : IntKind.u8.wrap (z.tdiv 16) = z / 16 := by rw [hq0]; unfold IntKind.wrap IntKind.signed IntKind.bits; simp; omega
      have hq2 : IntKind.u8.wrap (z.tmod 16) = z % 16 := by rw [hq3]; unfold IntKind.wrap IntKind.signed IntKind.bits; simp; omega
      clear hq0
      have hown := HO.out.alloc (.cells #[.int .u8 (hxd (z / 16)), .int .u8 (hxd (z % 16))] 5)
      have hnw : ∀ (jj : Nat) u, [Value.int .u8 (hxd (z / 16)), .int .u8 (hxd (z % 16))][jj]? = some u → (wr.drew.alloc (.cells #[.int .u8 (hxd (z / 16)), .int .u8 (hxd (z % 16))] 5)).cell? (Addr.add ⟨wr.heap.size, 0, none⟩ jj) = some u := World.news_of_block (cs := #[.int .u8 (hxd (z / 16)), .int .u8 (hxd (z % 16))]) (t := 5) (fr := (0, 0)) (heap_alloc_new wr.drew _)
      go_upto_region 6 with fail
      go_region_law (refine step_append_lies _ (by rfl) _ _ _ (by rfl) w.heap.size 5 i0 _ 1 1 Tryz.underlying24 hi hz0 hz1 hz2 rfl (by omega) _ (2 * j) (valsOf .u8 (hxV (b.take j))) (by rfl) hown ⟨wr.heap.size, 0, none⟩ 2 2 [.int .u8 (hxd (z / 16)), .int .u8 (hxd (z % 16))] (by rfl) (by rfl) hnw (by intro u hu; simp at hu; rcases hu with rfl | rfl <;> rfl) (by omega) (by unfold maxLen; omega) (by omega) (by simp; omega) _ rfl ?_; intro gg cap1 X1 hown1 hgrow hat hlt1; have HO1 := Lib.hid hown1; have HG1 := Lib.hid hgrow; clear hown1 hgrow hat)
      all_goals
        have HO2 : Hid (X1.ownsRow w.heap.size 5 1 (.slice (some ⟨gg, 0, none⟩) (2 * (j + 1)) cap1) (2 * (j + 1)) (valsOf .u8 (hxV (b.take (j + 1))))) := Lib.hid (by
          rw [HS.out]
          unfold valsOf
          rw [List.map_append]
          exact HO1.out)
        have HB2 : Hid (Below w.heap.size w X1) := Lib.hid ((HB.out.drew.alloc hsz _).grown HG1.out (by simp; omega) (fun g hg => (HO.out.lt g hg).1))
        clear HO1 HG1 hc hx1 hx2 hown hnw HO HB hq1 hq2 hq3
        go_wp2_with fail
        exact ⟨⟨j + 1, by omega, by go_num, HO2, HB2⟩, by simp [intOf]; omega⟩
    · have hjn : j = n := by omega
      subst hjn
      have hrow := HO.out
      rw [List.take_of_length_le (by rw [HL.out]; exact Nat.le_refl _)] at hrow
      obtain ⟨A2, c2, rfl, -, h2⟩ := rd_own hrow
      have HBB := Lib.hid HB.out
      clear hrow HO
      by_cases h0 : j = 0
      · subst h0
        have hb : hxT b = [45] := by
          have := HL.out
          unfold hxT
          cases b with
          | nil => rfl
          | cons z b => simp at this
        have HX := Lib.hid hb
        clear hb h2
        go_wp2_with fail
        go_ret
        exact ⟨ret_str (by rw [HX.out]; rfl), HBB.out⟩
      · have hb : hxT b = chs (hxV b) := hxT_chs b (by
          intro e
          have := HL.out
          rw [e] at this
          simp at this
          omega) HZM.out
        have hcv : (convert 24 9 (.slice A2 (2 * j) c2)).run Tryz.prog wr = .ok (.string (strOf (hxV b))) wr := conv_rd h2 c2
        rw [show strOf (hxV b) = S (chs (hxV b)) from strOf_list _] at hcv
        have HX := Lib.hid hb
        clear h2 hb
        have hj2 : ¬ ((2 * j : Nat) : Int) = 0 := by omega
        have hj3 : (2 * (j : Int) == 0) = false := by simp; omega
        go_wp2_with fail
        go_ret
        exact ⟨ret_str (by rw [HX.out]), HBB.out⟩
end Go.Proofs.YtlodoilihminaaaGreatDoor
