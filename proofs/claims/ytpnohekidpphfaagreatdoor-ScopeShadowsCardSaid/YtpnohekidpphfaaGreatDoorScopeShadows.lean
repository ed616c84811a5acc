/-
  ScopeShadows: a name stands for what the innermost list says that has it, from list to list, and for what it stood for behind each one's end. No condition but the laid tables'.
-/
import Derived.Test.YtpnohekidpphfaaGreatDoorScF
import Derived.Test.YtpnohekidpphfaaGreatDoorRows
import Derived.Test.YtpnohekidpphfaaGreatDoorCards
import Derived.Test.YtpnohekidpphfaaGreatDoorTie
import Derived.Deep.DeepHandedRow
import Derived.Stop.LaidErr
import Derived.WalkKit
import Derived.ProofKit
import Derived.OpenShut
import Derived.LaidMore
import Derived.Lay
import Derived.SevenTiedAt
import Derived.Stop.Joined
namespace Go.Proofs.YtpnohekidpphfaaGreatDoor.scopeShadows
open Go.ChangeShapes Go.WideShapes Go.ChangeAt Go.RowKit
set_option linter.unusedVariables false
set_option linter.unusedSimpArgs false
structure Tab (w : World) : Prop where
  space : Lib.TabIs Tryz.prog w "strings.asciiSpace" .u8 spaceTab
/-- what was found in the rounds so far -/
def allV (ks : List (Option Nat)) (i : Nat) : List Value := (List.range i).map fun j => .int .i64 (orN (tk ks (j + 2)))
theorem allV_succ (ks : List (Option Nat)) (i : Nat) : allV ks (i + 1) = allV ks i ++ [.int .i64 (orN (tk ks (i + 2)))] := by
  unfold allV
  rw [List.range_succ, List.map_append]; rfl
theorem allV_app (ks : List (Option Nat)) (r : Option Nat) (i : Nat) (h : i < ks.length + 1) : allV (ks ++ [r]) i = allV ks i := by
  unfold allV
  refine List.map_congr_left fun j hj => ?_
  rw [tk_app ks r _ (by have := List.mem_range.1 hj; omega)]
theorem allV_at (ks : List (Option Nat)) (i j : Nat) (h : j < i) : (allV ks i)[j]? = some (.int .i64 (orN (tk ks (j + 2)))) := by
  unfold allV
  rw [List.getElem?_map, List.getElem?_range h]; rfl
theorem thing_size : ∀ y0 y1 y2 y3 y4 y5 y6 y7 y8 : Value, (Tryz.prog.info? 35).map (·.size) = some (#[y0, y1, y2, y3, y4, y5, y6, y7, y8] : Array Value).size := fun _ _ _ _ _ _ _ _ _ => by kernel_rfl
set_option maxHeartbeats 8000000 in
set_option maxRecDepth 100000 in
theorem walk {H : Type} {enc : TypeId × Value → H} {p0 : List MemPlace} (a0 : Option Addr) (len0 cap0 : Nat) (d : DataW H) (a1 : Int) (w : World) (h : DataW.Trod enc Tryz.prog w 0 (fun _ => true) true 43 (.slice a0 len0 cap0) d p0) (w1 : (Lit.int .i64 a1).wf = true) (hT : Tab w) :
    Calls Tryz.prog 4 #[.slice a0 len0 cap0, .int .i64 a1] w fun e w' => e = .returned (.bool true) ∧ Below w.heap.size w w' := by
  obtain ⟨hl0, hbs⟩ := boolRow_of Tryz.underlying43 Tryz.underlying4 (by kernel_rfl) h
  obtain ⟨b0, b1⟩ := bd_i64 w1
  have HBS := Lib.hid hbs
  have HT : Hid (SpTab w) := Lib.hid ⟨hT.space⟩
  have HTW : Hid (∀ W, Below w.heap.size w W → SpTab W) := Lib.hid fun W hW => HT.out.stab fun k hk => hW.block k (Nat.lt_of_lt_of_le hk (tab_base HT.out (fun _ => 0) (fun _ => false) (fun _ => []) (fun _ => Nat.zero_le _)).2)
  have KN : Hid (∀ W, Below w.heap.size w W → Calls Tryz.prog 5 #[] W fun e w' => e = .returned (.bool true) ∧ Below W.heap.size W w') := Lib.hid fun W hW => known13 W (HTW.out W hW)
  clear w1 hT hbs h
  unfold maxLen at hl0
  obtain ⟨i1, hi1, hz0, hz1, hz2⟩ : ∃ i, Tryz.prog.info? 3 = some i ∧ i.zero = some (.int .i64 0) ∧ i.size = 1 ∧ i.bytes = 8 := by
    obtain ⟨i, e1, e2⟩ := Option.map_eq_some_iff.1 infoI
    exact ⟨i, e1, (Prod.mk.inj e2).1, (Prod.mk.inj (Prod.mk.inj e2).2).1, (Prod.mk.inj (Prod.mk.inj e2).2).2⟩
  by_cases hm : len0 ≤ 20
  rotate_left
  · go_enter Tryz.func4, Tryz.ntmps4
    go_wp2_with (go_at_call 5; (refine (KN.out _ (Below.refl _ _)).mono ?_); rintro e w' ⟨rfl, hb⟩)
    all_goals first
      | (go_ret; exact ⟨rfl, hb⟩)
      | (exfalso; omega)
  · go_enter Tryz.func4, Tryz.ntmps4
    go_wp2_with (first
      | (go_at_call 6; (refine (scan_new _ HT.out).mono ?_); rintro e v1 ⟨μ, sb, sf, rfl, hs, hμ, hb⟩; have HS := Lib.hid hs; have HM := Lib.hid hμ; have HB1 := Lib.hid hb; clear hs hμ hb)
      | (go_at_call 8; (refine (types_new HS.out).mono ?_); rintro e v2 ⟨μ1, tb, tf, rfl, hle, hs, hμ, hb⟩; have HS2 := Lib.hid hs; have HM2 := Lib.hid hμ; have HM1 := Lib.hid (Ev.Names.le.at hle HM.out); have HB2 := Lib.hid (HB1.out.trans hb); clear hs hμ hb hle)
      | (go_at_call 7; (refine (scope_new2 HS2.out HM1.out HM2.out).mono ?_); rintro e v3 ⟨μ2, p, o, rfl, hb, hs, hp, hm2⟩; have HS3 := Lib.hid hs; have HP3 := Lib.hid hp; have HM3 := Lib.hid hm2; have HB3 := Lib.hid (HB2.out.trans hb); clear hs hp hm2 hb)
      | (go_at_call 13; (refine (id_any a1 _ (HTW.out _ HB3.out)).mono ?_); rintro e v4 ⟨⟨N, rfl, hN0, hN1⟩, hb⟩; have HS4 := Lib.hid (HS3.out.next hb); have HB4 := Lib.hid (HB3.out.trans (hb.mono HB3.out.size)); clear hb)
      | (go_at_call 14; (refine (names_new HS4.out).mono ?_); rintro e v5 ⟨μ3, nb, nf, rfl, hb, hle, hs, hn⟩; have HB5 := Lib.hid (HB4.out.trans hb); have HI : Hid (∃ μ, Ev.St tabVal0 μ w.heap.size (snM 0) (269 + 2 * 0) v5 ∧ μ 2 = some (sb, sf) ∧ μ 125 = some (p, o) ∧ μ 268 = some (nb, nf)) := Lib.hid ⟨μ3, hs, Ev.Names.le.at hle HM3.out, Ev.Names.le.at hle HP3.out, hn⟩; clear hb hle hs hn))
    clear HS HM HB1 HS2 HM2 HM1 HB2 HS3 HP3 HM3 HB3 HS4 HB4
    go_loopw [9] (fun i wr => ∃ k : Nat, i = .int .i64 (k : Int) ∧ k ≤ 13 ∧ Hid (Below w.heap.size w wr) ∧ Hid (∃ μ, Ev.St tabVal0 μ w.heap.size (snM k) (269 + 2 * k) wr ∧ μ 2 = some (sb, sf) ∧ μ 125 = some (p, o) ∧ μ 268 = some (nb, nf))) (fun i _ => 13 - (intOf i).toNat)
    case atStart => exact ⟨0, rfl, by omega, HB5, HI⟩
    case round =>
      clear HB5 HI
      obtain ⟨k, rfl, hk, HB, HI⟩ := hrel
      by_cases hlt : k < 13
      · obtain ⟨μ, hS, hm2, hm125, hm268⟩ := HI.out
        have hname := name_at hlt hS hm268
        have k0 : (0 : Int) ≤ (k : Int) := by omega
        have k1 : (k : Int) < 13 := by omega
        have HIN := Lib.hid (intern_k hlt hS hm2 (Ev.bytesOf (nmK k)) rfl)
        have HM := Lib.hid (And.intro hm2 (And.intro hm125 hm268))
        clear hS hm2 hm125 hm268 HI
        go_wp2_with (go_at_call 15; (refine HIN.out.mono ?_); rintro e w' ⟨x, μ1, rfl, hb, hle, hs⟩; have HB' := Lib.hid (HB.out.trans hb); have HI' : Hid (∃ μ, Ev.St tabVal0 μ w.heap.size (snM (k + 1)) (269 + 2 * (k + 1)) w' ∧ μ 2 = some (sb, sf) ∧ μ 125 = some (p, o) ∧ μ 268 = some (nb, nf)) := Lib.hid ⟨μ1, hs, Ev.Names.le.at hle HM.out.1, Ev.Names.le.at hle HM.out.2.1, Ev.Names.le.at hle HM.out.2.2⟩; clear hb hle hs)
        exact ⟨⟨k + 1, by simp, by omega, HB', HI'⟩, by simp [intOf]; omega⟩
      · have hkI : (k : Int) = 13 := by omega
        rw [hkI]
        clear hkI
        obtain rfl : k = 13 := by omega
        have HSH : Hid (Sh w wr p o 0 N (.slice none 0 0) [none]) := Lib.hid (by
          obtain ⟨μ, hS, _, hm125, _⟩ := HI.out
          obtain ⟨tv, lv, xs, v0, hA, hn⟩ := scat_of rfl hS hm125 run5
          refine ⟨HB.out, ⟨tv, lv, 29, xs, _, hA, by omega, rfl, ⟨v0, rfl⟩, fun j r hj => ?_, fun j hj => ⟨_, hn j hj, ?_⟩, fun j k hj => ?_, fun z e => by simp [Value.ownBlock] at e⟩, fun j k hj => ?_⟩
          · match j, hj with
            | 0, hj => cases hj; exact ⟨_, rfl⟩
          · have := List.mem_range'_1.1 hj; omega
          · match j, hj with
            | 0, hj => cases hj
          · match j, hj with
            | 0, hj => cases hj)
        clear HI HB
        go_wp2_with fail
        go_loopw [10, 11] (fun av i wr => ∃ (x : Nat) (ks : List (Option Nat)), i = .int .i64 (x : Int) ∧ x ≤ len0 ∧ Hid (Sh w wr p o x N av ks) ∧ Hid (ks.length = max x 1 ∧ (x = 0 → ks = [none])) ∧ Hid (Ev.WRow wr w.heap.size 1 av x (allV ks x))) (fun _ i _ => len0 - (intOf i).toNat)
        case atStart => exact ⟨0, [none], rfl, by omega, HSH, Lib.hid ⟨rfl, fun _ => rfl⟩, Lib.hid ⟨rfl, .inl ⟨rfl, rfl⟩⟩⟩
        case round =>
          clear HSH
          obtain ⟨x, ks, rfl, hxl, HS, HKS, HW⟩ := hrel
          by_cases hlt : x < len0
          · by_cases hxz : x = 0
            · obtain rfl := HKS.out.2 hxz
              obtain ⟨ks0, hk0, hke⟩ : ∃ ks0 : List (Option Nat), ks0.length = x ∧ [none] = ks0 ++ [none] := ⟨[], by rw [hxz]; rfl, rfl⟩
              rw [hke] at HS HW
              clear hke
              have HS5 := HS
              have HW5 := HW
              have hxi : ¬ ((0 : Int) < (x : Int)) := by omega
              have HXZ := Lib.hid hxz
              clear hxz
              go_upto_region 17 with fail
              obtain ⟨pz, b, ha, hblk, hcell⟩ := HBS.out x hlt
              have hz := (HS5.out.b.cell (by rw [block_add]; exact hblk)).trans hcell
              subst ha
              clear hblk hcell
              have hxx0 : (0 : Int) ≤ (x : Int) := by omega
              have hxx1 : (x : Int) < (len0 : Int) := by omega
              have hcv : IntKind.i32.wrap (x : Int) = (x : Int) := by rw [IntKind.wrap_i32]; omega
              cases b
              · have HSr := Lib.hid (HS5.out.more (Nat.le_succ x))
                have HWr := HW5
                have hks : (ks0 ++ [(none : Option Nat)]).length = x + 1 := by simp [hk0]
                have htl : tk (ks0 ++ [none]) (x + 2) = tk ks0 (x + 1) := by have h9 := tk_last ks0 none; rw [hk0] at h9; exact h9
                have htk : tk (ks0 ++ [none]) (x + 2) = none := by rw [htl, HXZ.out]; rfl
                clear htl
                go_upto_region 26 with fail
                have HAPP := Lib.hid (scb1 wr (.cells #[.int .i64 0] 3))
                have hBz : ∀ z, u10.ownBlock = some z → w.heap.size ≤ z := fun z e => (HWr.out.lt z e).1
                have hWs := HSr.out.b.size
                have HNW : Hid ((wr.alloc (.cells #[.int .i64 0] 3)).heap[wr.heap.size]? = some (.cells #[.int .i64 0] 3 (0, 0))) := Lib.hid (heap_alloc_new wr _)
                go_wp2_with (at_builtin; refine Ev.wpList_append_w rfl (.tmp 101) (.tmp 103) 22 22 rfl 3 i1 (.int .i64 0) 8 Tryz.underlying22 Tryz.underlying22 hi1 hz0 hz1 hz2 rfl rfl (HWr.out.below HAPP.out) ⟨wr.heap.size, 0, none⟩ 1 1 [.int .i64 0] rfl rfl ?c1_1 ?c2_1 ?c3_1 ?c4_1 ?c5_1 ?c6_1 _ rfl ?_)
                try case c1_1 => exact World.news_of_block (cs := #[.int .i64 0]) (t := 3) (fr := (0, 0)) HNW.out
                try case c2_1 => simp [Value.oneCell']
                try case c3_1 => omega
                try case c4_1 => omega
                try case c5_1 => omega
                try case c6_1 => first | omega | (simp; omega)
                intro g f cap w1 hown hgrow hat hlt1
                have HS9 := Lib.hid ((HSr.out.below HAPP.out).grown (f := f) (n2 := x + 1) (cap := cap) hgrow (by rcases hat with e | e; exact .inl e; exact .inr (by rw [e]; simp)) hlt1 hBz)
                have HW9 : Hid (Ev.WRow w1 w.heap.size 1 (.slice (some ⟨g, f, none⟩) (x + 1) cap) (x + 1) (allV (ks0 ++ [none]) (x + 1))) := Lib.hid (by rw [allV_succ, htk]; exact hown)
                have HFN : Hid (Calls Tryz.prog 17 #[.pointer (some ⟨p, o, none⟩), .int .i64 N] w1 fun e w' => e = .returned (.tuple #[.int .i64 0, .bool false]) ∧ w1 = w') := Lib.hid (by have h9 := sh_find HS9.out; rw [hks, show x + 1 + 1 = x + 2 from rfl, htk] at h9; exact h9)
                clear hown hgrow hat hlt1 HAPP HNW
                go_wp2_with (go_at_call 17; (refine HFN.out.mono ?_); rintro e w' ⟨rfl, rfl⟩)
                exact ⟨⟨x + 1, _, by simp, by omega, HS9, Lib.hid ⟨by rw [hks]; omega, fun e => by omega⟩, HW9⟩, by simp [intOf]; omega⟩
              · obtain ⟨k, hk9, hD⟩ := sh_declare HS5.out (by omega) (x : Int)
                rw [hk0] at hD
                have HD := Lib.hid hD
                clear hD
                go_upto_region 20 with (go_at_call 10; (refine HD.out.mono ?_); rintro e v6 ⟨rfl, hs, hkz, hg⟩; have HS6 := Lib.hid hs; have HW6 := Lib.hid (wrow_same HW5.out hkz.1 hkz.2); have HG6 := Lib.hid hg; clear hs hkz hg)
                have HTS := Lib.hid thing_size
                go_upto_region 21 with (first
                  | (go_at_call 16; (refine (HG6.out _ (Below.refl _ _)).mono ?_); rintro e v7 ⟨rfl, hb⟩; have HS7 := Lib.hid (HS6.out.below hb); have HW7 := Lib.hid (HW6.out.below hb); clear hb)
                  | (with_reducible refine wpList_store_row rfl 35 _ _ rfl v7.heap.size #[.int .i64 3, .int .i64 N, .int .i64 1, .int .i64 (x : Int), .int .i32 (x : Int), .int .i64 0, .bool false, .bool false, .slice none 0 0] rfl rfl 35 #[.int .i64 0, .int .i64 0, .int .i64 0, .int .i64 0, .int .i32 0, .int .i64 0, .bool false, .bool false, .slice none 0 0] (heap_alloc_new v7 _) (HTS.out ..) rfl (by simp [Value.oneCell']) ?_; rw [World.setRow_alloc_new]))
                have HA8 := Lib.hid (scb1 v7 (.cells #[.int .i64 3, .int .i64 N, .int .i64 1, .int .i64 (x : Int), .int .i32 (x : Int), .int .i64 0, .bool false, .bool false, .slice none 0 0] 35))
                have HS8 := Lib.hid (HS7.out.below HA8.out)
                have HW8 := Lib.hid (HW7.out.below HA8.out)
                have q3 : (v7.alloc (.cells #[.int .i64 3, .int .i64 N, .int .i64 1, .int .i64 (x : Int), .int .i32 (x : Int), .int .i64 0, .bool false, .bool false, .slice none 0 0] 35)).cell? ⟨v7.heap.size, 3, none⟩ = some (.int .i64 (x : Int)) := by rw [World.cell?_alloc_new v7 _ _ _]; rfl
                have q4 : (v7.alloc (.cells #[.int .i64 3, .int .i64 N, .int .i64 1, .int .i64 (x : Int), .int .i32 (x : Int), .int .i64 0, .bool false, .bool false, .slice none 0 0] 35)).cell? ⟨v7.heap.size, 4, none⟩ = some (.int .i32 (x : Int)) := by rw [World.cell?_alloc_new v7 _ _ _]; rfl
                clear HD HS6 HW6 HG6 HS7 HW7 HA8 HTS
                generalize v7.alloc (.cells #[.int .i64 3, .int .i64 N, .int .i64 1, .int .i64 (x : Int), .int .i32 (x : Int), .int .i64 0, .bool false, .bool false, .slice none 0 0] 35) = V8 at *
                have HSr := HS8
                have HWr : Hid (Ev.WRow V8 w.heap.size 1 u10 x (allV (ks0 ++ [some k]) x)) := Lib.hid (by rw [allV_app _ _ _ (by omega), ← allV_app _ (none : Option Nat) _ (by omega)]; exact HW8.out)
                have hks : (ks0 ++ [some k]).length = x + 1 := by simp [hk0]
                have htk : tk (ks0 ++ [some k]) (x + 2) = some k := by have h9 := tk_last ks0 (some k); rw [hk0] at h9; exact h9
                have hk8 : ((k : Int) != 0) = true := by simp; omega
                go_upto_region 26 with fail
                have HAPP := Lib.hid (scb1 V8 (.cells #[.int .i64 (k : Int)] 3))
                have hBz : ∀ z, u10.ownBlock = some z → w.heap.size ≤ z := fun z e => (HWr.out.lt z e).1
                have hWs := HSr.out.b.size
                have HNW : Hid ((V8.alloc (.cells #[.int .i64 (k : Int)] 3)).heap[V8.heap.size]? = some (.cells #[.int .i64 (k : Int)] 3 (0, 0))) := Lib.hid (heap_alloc_new V8 _)
                go_wp2_with (at_builtin; refine Ev.wpList_append_w rfl (.tmp 101) (.tmp 103) 22 22 rfl 3 i1 (.int .i64 0) 8 Tryz.underlying22 Tryz.underlying22 hi1 hz0 hz1 hz2 rfl rfl (HWr.out.below HAPP.out) ⟨V8.heap.size, 0, none⟩ 1 1 [.int .i64 (k : Int)] rfl rfl ?c1_2 ?c2_2 ?c3_2 ?c4_2 ?c5_2 ?c6_2 _ rfl ?_)
                try case c1_2 => exact World.news_of_block (cs := #[.int .i64 (k : Int)]) (t := 3) (fr := (0, 0)) HNW.out
                try case c2_2 => simp [Value.oneCell']
                try case c3_2 => omega
                try case c4_2 => omega
                try case c5_2 => omega
                try case c6_2 => first | omega | (simp; omega)
                intro g f cap w1 hown hgrow hat hlt1
                have HS9 := Lib.hid ((HSr.out.below HAPP.out).grown (f := f) (n2 := x + 1) (cap := cap) hgrow (by rcases hat with e | e; exact .inl e; exact .inr (by rw [e]; simp)) hlt1 hBz)
                have HW9 : Hid (Ev.WRow w1 w.heap.size 1 (.slice (some ⟨g, f, none⟩) (x + 1) cap) (x + 1) (allV (ks0 ++ [some k]) (x + 1))) := Lib.hid (by rw [allV_succ, htk]; exact hown)
                have HFN : Hid (Calls Tryz.prog 17 #[.pointer (some ⟨p, o, none⟩), .int .i64 N] w1 fun e w' => e = .returned (.tuple #[.int .i64 (k : Int), .bool true]) ∧ w1 = w') := Lib.hid (by have h9 := sh_find HS9.out; rw [hks, show x + 1 + 1 = x + 2 from rfl, htk] at h9; exact h9)
                clear hown hgrow hat hlt1 HAPP HNW
                go_wp2_with (go_at_call 17; (refine HFN.out.mono ?_); rintro e w' ⟨rfl, rfl⟩)
                exact ⟨⟨x + 1, _, by simp, by omega, HS9, Lib.hid ⟨by rw [hks]; omega, fun e => by omega⟩, HW9⟩, by simp [intOf]; omega⟩
            · have HOP := Lib.hid (sh_open HS.out (by have := HKS.out.1; omega))
              have hxi : decide ((x : Int) > 0) = true := by simp; omega
              go_upto_region 17 with (go_at_call 9; (refine HOP.out.mono ?_); rintro e v5 ⟨rfl, hs, hkz⟩; have HS5 := Lib.hid hs; have HW5' := Lib.hid (wrow_same HW.out hkz.1 hkz.2); clear hs hkz)
              obtain ⟨ks0, rfl⟩ : ∃ ks0, ks0 = ks := ⟨_, rfl⟩
              have hk0 : ks0.length = x := by have := HKS.out.1; omega
              have HW5 : Hid (Ev.WRow v5 w.heap.size 1 u10 x (allV (ks0 ++ [none]) x)) := Lib.hid (by rw [allV_app _ _ _ (by omega)]; exact HW5'.out)
              obtain ⟨pz, b, ha, hblk, hcell⟩ := HBS.out x hlt
              have hz := (HS5.out.b.cell (by rw [block_add]; exact hblk)).trans hcell
              subst ha
              clear hblk hcell
              have hxx0 : (0 : Int) ≤ (x : Int) := by omega
              have hxx1 : (x : Int) < (len0 : Int) := by omega
              have hcv : IntKind.i32.wrap (x : Int) = (x : Int) := by rw [IntKind.wrap_i32]; omega
              cases b
              · have HSr := Lib.hid (HS5.out.more (Nat.le_succ x))
                have HWr := HW5
                have hks : (ks0 ++ [(none : Option Nat)]).length = x + 1 := by simp [hk0]
                have htl : tk (ks0 ++ [none]) (x + 2) = tk ks0 (x + 1) := by have h9 := tk_last ks0 none; rw [hk0] at h9; exact h9
                go_upto_region 24 with fail
                obtain ⟨ab, af, ac, hav, _, _⟩ := HWr.out.form (by omega)
                subst hav
                obtain ⟨x9, rfl⟩ : ∃ x9, x = x9 + 1 := ⟨x - 1, by omega⟩
                have hca := (HWr.out.cell x9 (by omega)).1
                rw [allV_at _ _ _ (by omega), tk_app _ _ _ (by omega)] at hca
                have hj0 : (0 : Int) ≤ ((x9 + 1 : Nat) : Int) - 1 := by omega
                have hj1 : ((x9 + 1 : Nat) : Int) - 1 < ((x9 + 1 : Nat) : Int) := by omega
                have htp : ∀ q, tk ks0 (x9 + 1 + 1) = some q → 0 < q := fun q e => tk_pos (fun j k e2 => HSr.out.q j k (by rw [List.getElem?_append_left (List.getElem?_eq_some_iff.1 e2).1]; exact e2)) _ q e
                cases htc : tk ks0 (x9 + 1 + 1) with
                | none =>
                  have htk : tk (ks0 ++ [none]) (x9 + 1 + 2) = none := htl.trans htc
                  have hca0 : v5.cell? ⟨ab, af + x9, none⟩ = some (.int .i64 0) := by rw [hca, show x9 + 2 = x9 + 1 + 1 from rfl, htc]; rfl
                  clear hca htl htp htc
                  go_upto_region 26 with fail
                  have HAPP := Lib.hid (scb1 v5 (.cells #[.int .i64 0] 3))
                  have hBz : ∀ z, (Value.slice (some ⟨ab, af, none⟩) (x9 + 1) ac).ownBlock = some z → w.heap.size ≤ z := fun z e => (HWr.out.lt z e).1
                  have hWs := HSr.out.b.size
                  have HNW : Hid ((v5.alloc (.cells #[.int .i64 0] 3)).heap[v5.heap.size]? = some (.cells #[.int .i64 0] 3 (0, 0))) := Lib.hid (heap_alloc_new v5 _)
                  go_wp2_with (at_builtin; refine Ev.wpList_append_w rfl (.tmp 101) (.tmp 103) 22 22 rfl 3 i1 (.int .i64 0) 8 Tryz.underlying22 Tryz.underlying22 hi1 hz0 hz1 hz2 rfl rfl (HWr.out.below HAPP.out) ⟨v5.heap.size, 0, none⟩ 1 1 [.int .i64 0] rfl rfl ?c1_3 ?c2_3 ?c3_3 ?c4_3 ?c5_3 ?c6_3 _ rfl ?_)
                  try case c1_3 => exact World.news_of_block (cs := #[.int .i64 0]) (t := 3) (fr := (0, 0)) HNW.out
                  try case c2_3 => simp [Value.oneCell']
                  try case c3_3 => omega
                  try case c4_3 => omega
                  try case c5_3 => omega
                  try case c6_3 => first | omega | (simp; omega)
                  intro g f cap w1 hown hgrow hat hlt1
                  have HS9 := Lib.hid ((HSr.out.below HAPP.out).grown (f := f) (n2 := (x9 + 1) + 1) (cap := cap) hgrow (by rcases hat with e | e; exact .inl e; exact .inr (by rw [e]; simp)) hlt1 hBz)
                  have HW9 : Hid (Ev.WRow w1 w.heap.size 1 (.slice (some ⟨g, f, none⟩) ((x9 + 1) + 1) cap) ((x9 + 1) + 1) (allV (ks0 ++ [none]) ((x9 + 1) + 1))) := Lib.hid (by rw [allV_succ, htk]; exact hown)
                  have HFN : Hid (Calls Tryz.prog 17 #[.pointer (some ⟨p, o, none⟩), .int .i64 N] w1 fun e w' => e = .returned (.tuple #[.int .i64 0, .bool false]) ∧ w1 = w') := Lib.hid (by have h9 := sh_find HS9.out; rw [hks, show (x9 + 1) + 1 + 1 = (x9 + 1) + 2 from rfl, htk] at h9; exact h9)
                  clear hown hgrow hat hlt1 HAPP HNW
                  go_wp2_with (go_at_call 17; (refine HFN.out.mono ?_); rintro e w' ⟨rfl, rfl⟩)
                  exact ⟨⟨(x9 + 1) + 1, _, by simp, by omega, HS9, Lib.hid ⟨by rw [hks]; omega, fun e => by omega⟩, HW9⟩, by simp [intOf]; omega⟩
                | some q =>
                  have hq0 := htp q htc
                  have htk : tk (ks0 ++ [none]) (x9 + 1 + 2) = some q := htl.trans htc
                  have hca0 : v5.cell? ⟨ab, af + x9, none⟩ = some (.int .i64 (q : Int)) := by rw [hca, show x9 + 2 = x9 + 1 + 1 from rfl, htc]; rfl
                  have hq8 : ((q : Int) != 0) = true := by simp; omega
                  clear hca htl htp htc
                  go_upto_region 26 with fail
                  have HAPP := Lib.hid (scb1 v5 (.cells #[.int .i64 (q : Int)] 3))
                  have hBz : ∀ z, (Value.slice (some ⟨ab, af, none⟩) (x9 + 1) ac).ownBlock = some z → w.heap.size ≤ z := fun z e => (HWr.out.lt z e).1
                  have hWs := HSr.out.b.size
                  have HNW : Hid ((v5.alloc (.cells #[.int .i64 (q : Int)] 3)).heap[v5.heap.size]? = some (.cells #[.int .i64 (q : Int)] 3 (0, 0))) := Lib.hid (heap_alloc_new v5 _)
                  go_wp2_with (at_builtin; refine Ev.wpList_append_w rfl (.tmp 101) (.tmp 103) 22 22 rfl 3 i1 (.int .i64 0) 8 Tryz.underlying22 Tryz.underlying22 hi1 hz0 hz1 hz2 rfl rfl (HWr.out.below HAPP.out) ⟨v5.heap.size, 0, none⟩ 1 1 [.int .i64 (q : Int)] rfl rfl ?c1_4 ?c2_4 ?c3_4 ?c4_4 ?c5_4 ?c6_4 _ rfl ?_)
                  try case c1_4 => exact World.news_of_block (cs := #[.int .i64 (q : Int)]) (t := 3) (fr := (0, 0)) HNW.out
                  try case c2_4 => simp [Value.oneCell']
                  try case c3_4 => omega
                  try case c4_4 => omega
                  try case c5_4 => omega
                  try case c6_4 => first | omega | (simp; omega)
                  intro g f cap w1 hown hgrow hat hlt1
                  have HS9 := Lib.hid ((HSr.out.below HAPP.out).grown (f := f) (n2 := (x9 + 1) + 1) (cap := cap) hgrow (by rcases hat with e | e; exact .inl e; exact .inr (by rw [e]; simp)) hlt1 hBz)
                  have HW9 : Hid (Ev.WRow w1 w.heap.size 1 (.slice (some ⟨g, f, none⟩) ((x9 + 1) + 1) cap) ((x9 + 1) + 1) (allV (ks0 ++ [none]) ((x9 + 1) + 1))) := Lib.hid (by rw [allV_succ, htk]; exact hown)
                  have HFN : Hid (Calls Tryz.prog 17 #[.pointer (some ⟨p, o, none⟩), .int .i64 N] w1 fun e w' => e = .returned (.tuple #[.int .i64 (q : Int), .bool true]) ∧ w1 = w') := Lib.hid (by have h9 := sh_find HS9.out; rw [hks, show (x9 + 1) + 1 + 1 = (x9 + 1) + 2 from rfl, htk] at h9; exact h9)
                  clear hown hgrow hat hlt1 HAPP HNW
                  go_wp2_with (go_at_call 17; (refine HFN.out.mono ?_); rintro e w' ⟨rfl, rfl⟩)
                  exact ⟨⟨(x9 + 1) + 1, _, by simp, by omega, HS9, Lib.hid ⟨by rw [hks]; omega, fun e => by omega⟩, HW9⟩, by simp [intOf]; omega⟩
              · obtain ⟨k, hk9, hD⟩ := sh_declare HS5.out (by omega) (x : Int)
                rw [hk0] at hD
                have HD := Lib.hid hD
                clear hD
                go_upto_region 20 with (go_at_call 10; (refine HD.out.mono ?_); rintro e v6 ⟨rfl, hs, hkz, hg⟩; have HS6 := Lib.hid hs; have HW6 := Lib.hid (wrow_same HW5.out hkz.1 hkz.2); have HG6 := Lib.hid hg; clear hs hkz hg)
                have HTS := Lib.hid thing_size
                go_upto_region 21 with (first
                  | (go_at_call 16; (refine (HG6.out _ (Below.refl _ _)).mono ?_); rintro e v7 ⟨rfl, hb⟩; have HS7 := Lib.hid (HS6.out.below hb); have HW7 := Lib.hid (HW6.out.below hb); clear hb)
                  | (with_reducible refine wpList_store_row rfl 35 _ _ rfl v7.heap.size #[.int .i64 3, .int .i64 N, .int .i64 1, .int .i64 (x : Int), .int .i32 (x : Int), .int .i64 0, .bool false, .bool false, .slice none 0 0] rfl rfl 35 #[.int .i64 0, .int .i64 0, .int .i64 0, .int .i64 0, .int .i32 0, .int .i64 0, .bool false, .bool false, .slice none 0 0] (heap_alloc_new v7 _) (HTS.out ..) rfl (by simp [Value.oneCell']) ?_; rw [World.setRow_alloc_new]))
                have HA8 := Lib.hid (scb1 v7 (.cells #[.int .i64 3, .int .i64 N, .int .i64 1, .int .i64 (x : Int), .int .i32 (x : Int), .int .i64 0, .bool false, .bool false, .slice none 0 0] 35))
                have HS8 := Lib.hid (HS7.out.below HA8.out)
                have HW8 := Lib.hid (HW7.out.below HA8.out)
                have q3 : (v7.alloc (.cells #[.int .i64 3, .int .i64 N, .int .i64 1, .int .i64 (x : Int), .int .i32 (x : Int), .int .i64 0, .bool false, .bool false, .slice none 0 0] 35)).cell? ⟨v7.heap.size, 3, none⟩ = some (.int .i64 (x : Int)) := by rw [World.cell?_alloc_new v7 _ _ _]; rfl
                have q4 : (v7.alloc (.cells #[.int .i64 3, .int .i64 N, .int .i64 1, .int .i64 (x : Int), .int .i32 (x : Int), .int .i64 0, .bool false, .bool false, .slice none 0 0] 35)).cell? ⟨v7.heap.size, 4, none⟩ = some (.int .i32 (x : Int)) := by rw [World.cell?_alloc_new v7 _ _ _]; rfl
                clear HD HS6 HW6 HG6 HS7 HW7 HA8 HTS
                generalize v7.alloc (.cells #[.int .i64 3, .int .i64 N, .int .i64 1, .int .i64 (x : Int), .int .i32 (x : Int), .int .i64 0, .bool false, .bool false, .slice none 0 0] 35) = V8 at *
                have HSr := HS8
                have HWr : Hid (Ev.WRow V8 w.heap.size 1 u10 x (allV (ks0 ++ [some k]) x)) := Lib.hid (by rw [allV_app _ _ _ (by omega), ← allV_app _ (none : Option Nat) _ (by omega)]; exact HW8.out)
                have hks : (ks0 ++ [some k]).length = x + 1 := by simp [hk0]
                have htk : tk (ks0 ++ [some k]) (x + 2) = some k := by have h9 := tk_last ks0 (some k); rw [hk0] at h9; exact h9
                have hk8 : ((k : Int) != 0) = true := by simp; omega
                go_upto_region 26 with fail
                have HAPP := Lib.hid (scb1 V8 (.cells #[.int .i64 (k : Int)] 3))
                have hBz : ∀ z, u10.ownBlock = some z → w.heap.size ≤ z := fun z e => (HWr.out.lt z e).1
                have hWs := HSr.out.b.size
                have HNW : Hid ((V8.alloc (.cells #[.int .i64 (k : Int)] 3)).heap[V8.heap.size]? = some (.cells #[.int .i64 (k : Int)] 3 (0, 0))) := Lib.hid (heap_alloc_new V8 _)
                go_wp2_with (at_builtin; refine Ev.wpList_append_w rfl (.tmp 101) (.tmp 103) 22 22 rfl 3 i1 (.int .i64 0) 8 Tryz.underlying22 Tryz.underlying22 hi1 hz0 hz1 hz2 rfl rfl (HWr.out.below HAPP.out) ⟨V8.heap.size, 0, none⟩ 1 1 [.int .i64 (k : Int)] rfl rfl ?c1_5 ?c2_5 ?c3_5 ?c4_5 ?c5_5 ?c6_5 _ rfl ?_)
                try case c1_5 => exact World.news_of_block (cs := #[.int .i64 (k : Int)]) (t := 3) (fr := (0, 0)) HNW.out
                try case c2_5 => simp [Value.oneCell']
                try case c3_5 => omega
                try case c4_5 => omega
                try case c5_5 => omega
                try case c6_5 => first | omega | (simp; omega)
                intro g f cap w1 hown hgrow hat hlt1
                have HS9 := Lib.hid ((HSr.out.below HAPP.out).grown (f := f) (n2 := x + 1) (cap := cap) hgrow (by rcases hat with e | e; exact .inl e; exact .inr (by rw [e]; simp)) hlt1 hBz)
                have HW9 : Hid (Ev.WRow w1 w.heap.size 1 (.slice (some ⟨g, f, none⟩) (x + 1) cap) (x + 1) (allV (ks0 ++ [some k]) (x + 1))) := Lib.hid (by rw [allV_succ, htk]; exact hown)
                have HFN : Hid (Calls Tryz.prog 17 #[.pointer (some ⟨p, o, none⟩), .int .i64 N] w1 fun e w' => e = .returned (.tuple #[.int .i64 (k : Int), .bool true]) ∧ w1 = w') := Lib.hid (by have h9 := sh_find HS9.out; rw [hks, show x + 1 + 1 = x + 2 from rfl, htk] at h9; exact h9)
                clear hown hgrow hat hlt1 HAPP HNW
                go_wp2_with (go_at_call 17; (refine HFN.out.mono ?_); rintro e w' ⟨rfl, rfl⟩)
                exact ⟨⟨x + 1, _, by simp, by omega, HS9, Lib.hid ⟨by rw [hks]; omega, fun e => by omega⟩, HW9⟩, by simp [intOf]; omega⟩
          · obtain rfl : x = len0 := by omega
            go_wp2_with fail
            go_loopw [19] (fun i wr2 => ∃ (m : Nat) (y : Int) (k1 : List (Option Nat)), i = .int .i64 y ∧ y = (m : Int) - 1 ∧ m ≤ x ∧ k1.length = max m 1 ∧ Hid (Sh w wr2 p o x N u10 k1) ∧ Hid (Ev.WRow wr2 w.heap.size 1 u10 x (allV ks x)) ∧ Hid (∀ L, L ≤ k1.length + 1 → tk k1 L = tk ks L)) (fun i _ => (intOf i + 1).toNat)
            case atStart => exact ⟨x, _, ks, rfl, rfl, Nat.le_refl _, HKS.out.1, HS, HW, Lib.hid fun _ _ => rfl⟩
            case round =>
              clear HS HW HKS
              obtain ⟨m, y, k1, rfl, hy, hm9, hkl, HS2, HW2, HT2⟩ := hrel
              by_cases hm2 : 2 ≤ m
              · obtain ⟨q, rfl⟩ : ∃ q, m = q + 2 := ⟨m - 2, by omega⟩
                obtain rfl : y = (q : Int) + 1 := by omega
                have hne : k1 ≠ [] := fun e => by rw [e] at hkl; simp only [List.length_nil] at hkl; omega
                obtain ⟨k2, r, rfl⟩ : ∃ k2 r, k1 = k2 ++ [r] := ⟨k1.dropLast, k1.getLast hne, (List.dropLast_concat_getLast hne).symm⟩
                have hk2 : k2.length = q + 1 := by simp at hkl; omega
                have HCL := Lib.hid (sh_close HS2.out (by omega))
                have hTL : tk k2 (q + 2) = tk ks (q + 2) := (tk_app k2 r _ (by omega)).symm.trans (HT2.out (q + 2) (by simp; omega))
                have HT3 : Hid (∀ L, L ≤ k2.length + 1 → tk k2 L = tk ks L) := Lib.hid fun L hL => (tk_app k2 r L hL).symm.trans (HT2.out L (by simp; omega))
                obtain ⟨ab, af, ac, hav, _, _⟩ := HW2.out.form (by omega)
                subst hav
                have hq0 : (0 : Int) ≤ (q : Int) := by omega
                have hq1 : (q : Int) < (x : Int) := by omega
                clear hy hkl hne HT2
                go_upto_region 34 with (go_at_call 18; (refine HCL.out.mono ?_); rintro e v3 ⟨rfl, hs, hkz⟩; have HS3 := Lib.hid hs; have HW3 := Lib.hid (wrow_same HW2.out hkz.1 hkz.2); clear hs hkz)
                have hca : v3.cell? ⟨ab, af + q, none⟩ = some (.int .i64 (orN (tk ks (q + 2)))) := by rw [(HW3.out.cell q (by omega)).1, allV_at _ _ _ (by omega)]
                clear HS2 HW2 HCL
                cases htc : tk ks (q + 2) with
                | none =>
                  have hca0 : v3.cell? ⟨ab, af + q, none⟩ = some (.int .i64 0) := by rw [hca, htc]; rfl
                  have HFN : Hid (Calls Tryz.prog 17 #[.pointer (some ⟨p, o, none⟩), .int .i64 N] v3 fun e w' => e = .returned (.tuple #[.int .i64 0, .bool false]) ∧ v3 = w') := Lib.hid (by have h9 := sh_find HS3.out; rw [hk2, show q + 1 + 1 = q + 2 from rfl, hTL, htc] at h9; exact h9)
                  have HLV : Hid (Calls Tryz.prog 19 #[.pointer (some ⟨p, o, none⟩)] v3 fun e w' => e = .returned (.int .i64 (q : Int)) ∧ v3 = w') := Lib.hid (by have h9 := sh_level HS3.out; rw [hk2, show (((q + 1 : Nat) : Int) - 1) = (q : Int) by omega] at h9; exact h9)
                  clear hca htc hTL
                  go_wp2_with (first
                    | (go_at_call 17; (refine HFN.out.mono ?_); rintro e w' ⟨rfl, rfl⟩)
                    | (go_at_call 19; (refine HLV.out.mono ?_); rintro e w' ⟨rfl, rfl⟩))
                  all_goals first
                    | exact ⟨⟨q + 1, _, k2, rfl, by push_cast; omega, by omega, by omega, HS3, HW3, HT3⟩, by simp [intOf]; omega⟩
                    | (exfalso; omega)
                    | trace_state
                | some k9 =>
                  have hca0 : v3.cell? ⟨ab, af + q, none⟩ = some (.int .i64 (k9 : Int)) := by rw [hca, htc]; rfl
                  have HFN : Hid (Calls Tryz.prog 17 #[.pointer (some ⟨p, o, none⟩), .int .i64 N] v3 fun e w' => e = .returned (.tuple #[.int .i64 (k9 : Int), .bool true]) ∧ v3 = w') := Lib.hid (by have h9 := sh_find HS3.out; rw [hk2, show q + 1 + 1 = q + 2 from rfl, hTL, htc] at h9; exact h9)
                  have HLV : Hid (Calls Tryz.prog 19 #[.pointer (some ⟨p, o, none⟩)] v3 fun e w' => e = .returned (.int .i64 (q : Int)) ∧ v3 = w') := Lib.hid (by have h9 := sh_level HS3.out; rw [hk2, show (((q + 1 : Nat) : Int) - 1) = (q : Int) by omega] at h9; exact h9)
                  have hk9 : 0 < k9 := tk_pos (fun j k e2 => HS3.out.q j k e2) _ k9 (hTL.trans htc)
                  have hk8 : ((k9 : Int) != 0) = true := by simp; omega
                  clear hca htc hTL
                  go_wp2_with (first
                    | (go_at_call 17; (refine HFN.out.mono ?_); rintro e w' ⟨rfl, rfl⟩)
                    | (go_at_call 19; (refine HLV.out.mono ?_); rintro e w' ⟨rfl, rfl⟩))
                  all_goals first
                    | exact ⟨⟨q + 1, _, k2, rfl, by push_cast; omega, by omega, by omega, HS3, HW3, HT3⟩, by simp [intOf]; omega⟩
                    | (exfalso; omega)
                    | trace_state
              · have hy0 : y ≤ 0 := by omega
                have HB2 := Lib.hid HS2.out.b
                have HKB := Lib.hid (KN.out _ HS2.out.b)
                clear hy
                go_wp2_with (go_at_call 5; (refine HKB.out.mono ?_); rintro e w' ⟨rfl, hb⟩; have HB3 := Lib.hid (HB2.out.trans (hb.mono HB2.out.size)); clear hb)
                all_goals first
                  | (go_ret; exact ⟨rfl, HB3.out⟩)
                  | (exfalso; omega)
                  | trace_state
theorem own : ownKnob Tryz.prog.godebug = none := by kernel_rfl
theorem laidOut : laidOutB Tryz.prog = true := by kernel_rfl
theorem gTab5 : Tryz.prog.globalNamed "strings.asciiSpace" = some 0 := by kernel_rfl
set_option maxRecDepth 1000000 in
theorem tables {W : World} (h0 : laidMetH Tryz.prog Rows.scopeShadowsRow.laid W) : Tab W := by
  rw [MakeChecks.laidMetH_plain _ _ _ (by kernel_rfl)] at h0
  have h : laidMet Tryz.prog Rows.scopeShadowsRow.laid W := h0
  exact ⟨Lib.tabIs_of_head (rest := _) gTab5 (by kernel_rfl) Tryz.underlying81 Tryz.underlying5 (by kernel_rfl) (by kernel_rfl) (laidMet.tail (laidMet.tail (laidMet.tail (laidMet.tail (laidMet.tail h)))))⟩
set_option maxRecDepth 1000000 in
theorem contract (H : Type) (enc : TypeId × Value → H) (W : World) (base : Nat) (args : Array Value) (ds gs : List (DataW H)) (before : List MemPlace)
    (hval : ∀ (j : Nat) t v, Tryz.f4.params[j]? = some t → args[j]? = some v → Value.okWide Tryz.prog W .any base t v)
    (hW : DataW.Whole enc Tryz.prog Tryz.f4.params.toList Rows.scopeShadowsSpec.vars false W args.toList ds gs before) (hL : laidMetH Tryz.prog Rows.scopeShadowsRow.laid W) :
    Calls Tryz.prog 4 args W fun e W' => ∃ v, e = .returned v ∧ Rows.scopeShadowsSpec.post enc Tryz.prog Tryz.f4 false true false false W args v W' := by
  have hW' := hW
  obtain ⟨p, q, hA0, hV, rfl, hfz, hnd⟩ := hW
  have hA : DataW.TrodAll enc Tryz.prog W 0 (fun _ => true) true Tryz.f4.params.toList args.toList ds p := hA0
  rw [Tryz.params4] at hA hval
  obtain ⟨v0, vs0, d0, ds0, p0, q0, hargs, rfl, rfl, h0, r0⟩ := trodAll_cons hA
  obtain ⟨v1, vs1, d1, ds1, p1, q1, rfl, rfl, rfl, h1, r1⟩ := trodAll_cons r0
  obtain ⟨rfl, rfl, rfl⟩ := trodAll_nil r1
  obtain rfl : args = #[v0, v1] := by cases args; simp_all
  obtain ⟨rfl, rfl⟩ := trodVars_none hV
  obtain ⟨a0, len0, cap0, rfl⟩ := okWide_slice Tryz.underlying43 (hval 0 43 v0 rfl rfl)
  have k0 := h0
  have lt0 : ∀ x ∈ p0, x.block < W.heap.size := by obtain ⟨m, hm⟩ := k0; exact DataW.trod_lt m _ _ _ hm
  obtain ⟨a1, rfl, rfl, rfl, w1⟩ := open_int Tryz.underlying3 (hval 1 3 v1 rfl rfl) h1
  clear hA0
  have hT := tables hL
  refine (walk a0 len0 cap0 _ a1 W h0 w1 hT).mono fun e W' ⟨he, bel⟩ => ?_
  subst he
  exact ⟨_, rfl, _, _, _, [], _, [], hW', trodAll_mk1 (shut_bool Tryz.underlying4 _), (trodAll_cons_mk (Below.trod laidOut (by kernel_rfl) (of_decide_eq_true (by kernel_rfl)) k0 bel lt0) (trodAll_cons_mk (shut_int Tryz.underlying3 w1) trodAll_mk0)), rfl, bel.frame _, fun h => by cases h⟩
theorem witness_shaped {H : Type} {enc : TypeId × Value → H} {C : Checked} {os : Os} {f : FuncId} {fn : Func} {s : OpenSpec} {conds : List PathCond} {apart : Bool} {laid : List (String × DataW Unit)} (modest : Bool) (w0 : World) (args : Array Value) (hos : w0.os = os)
    (hsh : (w0.forCall (fun _ _ => 0) ⟨#[], args, []⟩).Shaped C.prog) (hok : Input.okWideB C.prog (w0.forCall (fun _ _ => 0) ⟨#[], args, []⟩) f ⟨#[], args, []⟩ = true)
    (hrow : s.preRow enc C.prog fn conds apart laid (w0.forCall (fun _ _ => 0) ⟨#[], args, []⟩).memory args) :
    ∃ (w : World) (tape : Tape) (i : Input), w.os = os ∧ (w.forCall tape i).Shaped C.prog ∧ i.vars = [] ∧ Input.okWide C.prog (w.forCall tape i) .any w.heap.size f i ∧
      s.preRow enc C.prog fn conds apart laid (w.forCall tape i).memory i.args ∧ ({ modest := modest } : Assume).holds C.prog (lone (Frame.enter C.prog f i.args .normal) [] (w.forCall tape i)) :=
  ⟨w0, fun _ _ => 0, ⟨#[], args, []⟩, hos, hsh, (Input.okWide_of_okWideB (base := 0) hok).1, (Input.okWide_of_okWideB hok).2, hrow, by
    simp only [Assume.holds]
    exact ⟨by simp, by simp, fun _ => Modest.zero, by simp, by simp⟩⟩
set_option maxRecDepth 1000000 in
theorem laid_met (os : Os) : laidMetH Tryz.prog Rows.scopeShadowsRow.laid ((World.laidAll Tryz.prog os Rows.scopeShadowsRow.laid).forCall (fun _ _ => 0) ⟨#[], #[.slice none 0 0, .int .i64 0], []⟩).memory := by
  rw [MakeChecks.laidMetH_plain _ _ _ (by kernel_rfl)]
  exact laidMet_laidAll _ (by kernel_rfl) (by kernel_rfl)
set_option maxRecDepth 1000000 in
theorem reads (os : Os) {H : Type} (enc : TypeId × Value → H) : ∃ places, DataW.whole enc Tryz.prog ((World.laidAll Tryz.prog os Rows.scopeShadowsRow.laid).forCall (fun _ _ => 0) ⟨#[], #[.slice none 0 0, .int .i64 0], []⟩).memory Tryz.f4.params.toList Rows.scopeShadowsSpec.vars false (#[.slice none 0 0, .int .i64 0] : Array Value).toList 8 = some ([.nil, .lit (.int .i64 0)], [], places) := ⟨[], by kernel_rfl⟩
set_option maxRecDepth 1000000 in
theorem lifted (os : Os) (started : os.Started) (H : Type) (enc : TypeId × Value → H) (F : Stop.Interp) :
    ReturnsInHanded {} Tryz.checked os 4 .any ((OpenSpec.ofChange Rows.scopeShadowsSpec).preRow enc Tryz.prog Tryz.f4 Rows.scopeShadowsRow.domain false Rows.scopeShadowsRow.laid) (((OpenSpec.ofChange Rows.scopeShadowsSpec).at F).post enc Tryz.prog Tryz.f4 false true false false) := by
  obtain ⟨places, hx⟩ := reads os enc
  refine returnsInHanded_of_row (C := Tryz.checked) (s := OpenSpec.ofChange Rows.scopeShadowsSpec) own started (by kernel_rfl) Tryz.func4
    (witness_shaped (enc := enc) (C := Tryz.checked) false (World.laidAll Tryz.prog os Rows.scopeShadowsRow.laid) #[.slice none 0 0, .int .i64 0] (World.laidAll_os _ _ _) (World.shaped_of_ZipB (by kernel_rfl) (by kernel_rfl)) (by kernel_rfl)
      (OpenSpec.preRow_of_cond 8 hx (by kernel_rfl) (fun k hk => by cases hk) (by kernel_rfl) (laid_met os))) ?_
  intro W base args ds gs before hval hW _ _ _ hL _ _
  exact contract H enc W base args ds gs before hval hW hL
theorem said : Rows.ScopeShadowsSaid :=
  OpenClaim.holds_of_cond 4 Tryz.f4 rfl rfl rfl rfl rfl rfl rfl ⟨rfl, rfl, rfl, rfl, rfl⟩ rfl rfl rfl rfl rfl (by kernel_rfl) Tryz.func4 (by kernel_rfl)
    (of_decide_eq_true (by kernel_rfl)) (by unfold Func.isWrapper; first | (rw [if_pos (by decide +kernel)]; kernel_rfl) | (rw [if_neg (by decide +kernel)]; exact ⟨rfl, rfl⟩))
    (fun os started H enc _ F => by rw [OpenClaim.pre_eq_preRow]; exact lifted os started H enc F)
theorem plain (f : FuncId) (fn : Func) (hf : Tryz.pinned.checked.prog.funcNamed "selfsame/selfsamelaw13.ScopeShadows" = some f) (hfn : Tryz.pinned.checked.prog.funcs[f]? = some fn) :
    false = Tryz.pinned.checked.prog.looks [] ∧ ∀ (j : Nat) t, fn.params[j]? = some t → Tryz.pinned.checked.prog.wantsStandIn t = false := by
  obtain rfl : f = 4 := Option.some.inj ((show Tryz.prog.funcNamed "selfsame/selfsamelaw13.ScopeShadows" = some 4 by kernel_rfl).symm.trans hf) |>.symm
  obtain rfl : fn = Tryz.f4 := (Option.some.inj (Tryz.func4.symm.trans hfn)).symm
  refine ⟨by kernel_rfl, fun j t ht => ?_⟩
  rw [Tryz.params4] at ht
  have hm := Array.mem_of_getElem? ht
  simp only [List.mem_toArray, List.mem_cons, List.not_mem_nil, or_false] at hm
  rcases hm with rfl | rfl
  · exact (show Tryz.prog.wantsStandIn 43 = false by kernel_rfl)
  · exact (show Tryz.prog.wantsStandIn 3 = false by kernel_rfl)
theorem proved : Rows.ScopeShadowsCardSaid :=
  Claim7.holds_tied_plain_at .later [] _ _ _ _ said (fun _ h => by cases h) (by kernel_rfl) (fun _ h => by cases h) scopeShadows_row_tie rfl ⟨rfl, rfl⟩ (by kernel_rfl) rfl plain (by kernel_rfl)
end Go.Proofs.YtpnohekidpphfaaGreatDoor.scopeShadows
