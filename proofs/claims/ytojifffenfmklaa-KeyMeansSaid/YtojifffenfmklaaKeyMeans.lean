/-
  KeyMeans: for every at most 3000 bytes, any two places, any byte: a fingerprint goes on from wherever bytes are cut; of bytes that are as long and differ in one byte alone the fingerprints are unlike.
-/
import Derived.Test.YtojifffenfmklaaKeyB
import Derived.Test.YtojifffenfmklaaOwnA
import Derived.Deep.DeepHandedRow
import Derived.StillTactics
import Derived.StillTailTactics
import Derived.Deep.QuietTactic
import Derived.BigQuiet
import Derived.Deep.RegionHeld3
import Derived.WalkSpells
namespace Go.Proofs.Ytojifffenfmklaa.keyMeans
open Go.ChangeShapes Go.WideShapes Go.ChangeAt Go.RowKit
set_option linter.unusedVariables false

theorem infoU8 : (Try.prog.info? 5).map (fun i => (i.zero, i.size, i.bytes)) = some (some (.int .u8 0), 1, 1) := by kernel_rfl
theorem cut_run (A : Option Addr) (n c q : Nat) (hq : (q : Int) ≤ (n : Int)) (hc : (n : Int) ≤ (c : Int)) (W : World) (A2 : Option Addr) (h : (if c = q then A else A.map (·.add q)) = A2) :
   (Instr.slice 25 (.slice A n c) (some (.int .i64 (q:Int))) none none).run Try.prog W = .ok (.slice A2 (n - q) (c - q)) W := by
  subst h
  have h0 : (0 : Int) ≤ (q : Int) := by omega
  have h1 : q ≤ n := by omega
  obtain ⟨i0, hi, hz0, hz1, hz2⟩ := info_parts infoU8
  simp [Instr.slice, Instr.sliceBounds, Instr.sliceBound, asIntOf, run_underlying (Try.underlying25), go_sem, h0, h1, sizeOf, typeInfo, hi, hz1]
theorem step_back (k z : Int) (k0 : 0 ≤ k) (k1 : k ≤ 4294967295) : k = ((step k z - (z + 1)) * 899433627) % 4294967296 := by
  unfold step w32
  have h := Int.emod_add_mul_ediv (k * 16777619 + z + 1) 4294967296
  generalize (k * 16777619 + z + 1) % 4294967296 = S at *
  generalize (k * 16777619 + z + 1) / 4294967296 = q at *
  have e : (S - (z + 1)) * 899433627 = k + 4294967296 * (k * 3513497 - q * 899433627) := by omega
  rw [e, Int.add_mul_emod_self_left]
  omega
theorem step_inj (k l z : Int) (k0 : 0 ≤ k) (k1 : k ≤ 4294967295) (l0 : 0 ≤ l) (l1 : l ≤ 4294967295) (h : step k z = step l z) : k = l := by
  rw [step_back k z k0 k1, step_back l z l0 l1, h]
theorem fnv_inj (zs : List Int) : ∀ k l : Int, 0 ≤ k → k ≤ 4294967295 → 0 ≤ l → l ≤ 4294967295 → fnv k zs = fnv l zs → k = l := by
  induction zs with
  | nil => intro k l _ _ _ _ h; exact h
  | cons z zs ih =>
    intro k l k0 k1 l0 l1 h
    have h2 : fnv (step k z) zs = fnv (step l z) zs := h
    exact step_inj k l z k0 k1 l0 l1 (ih _ _ (step_bd k z).1 (step_bd k z).2 (step_bd l z).1 (step_bd l z).2 h2)
theorem step_end (k c d : Int) (c0 : 0 ≤ c) (c1 : c ≤ 255) (d0 : 0 ≤ d) (d1 : d ≤ 255) (h : step k c = step k d) : c = d := by
  unfold step w32 at h
  generalize k * 16777619 = m at h
  omega
theorem fnv_set (S : Int) (s0 : 0 ≤ S) (s1 : S ≤ 4294967295) (zs : List Int) (p : Nat) (c : Int) (hp : p < zs.length) (c0 : 0 ≤ c) (c1 : c ≤ 255) (d0 : 0 ≤ nth zs p) (d1 : nth zs p ≤ 255) :
    (fnv S (zs.set p c) == fnv S zs) = (c == nth zs p) := by
  rw [Bool.eq_iff_iff]; simp only [beq_iff_eq]
  have e1 : zs.set p c = zs.take p ++ c :: zs.drop (p + 1) := List.set_eq_take_append_cons_drop .. |>.trans (by rw [if_pos hp])
  have e2 : fnv S zs = fnv S (zs.take p ++ nth zs p :: zs.drop (p + 1)) := by
    have := drop_nth zs p hp
    rw [← this, List.take_append_drop]
  have hb := fnv_bd S s0 s1 (zs.take p)
  constructor
  · intro h
    rw [e1, e2, fnv_append, fnv_append] at h
    have h2 : fnv (step (fnv S (zs.take p)) c) (zs.drop (p + 1)) = fnv (step (fnv S (zs.take p)) (nth zs p)) (zs.drop (p + 1)) := h
    exact step_end _ _ _ c0 c1 d0 d1 (fnv_inj _ _ _ (step_bd _ _).1 (step_bd _ _).2 (step_bd _ _).1 (step_bd _ _).2 h2)
  · intro h
    rw [e1, e2, h]
theorem vals_set (k : IntKind) (zs : List Int) (p : Nat) (c : Int) : (valsOf k zs).set p (.int k c) = valsOf k (zs.set p c) := by
  unfold valsOf; rw [List.map_set]
theorem walk_no (a0 : Option Addr) (len0 cap0 : Nat) (z0 : List Int) (a1 a2 a3 : Int) (w : World) (hok : ¬ (len0 ≤ 3000 ∧ 0 ≤ a1 ∧ a1 < len0 ∧ 0 ≤ a2 ∧ a2 ≤ len0)) :
    Calls Try.prog 5 #[.slice a0 len0 cap0, .int .i64 a1, .int .i64 a2, .int .u8 a3] w fun e w' => e = .returned (.bool true) ∧ Below w.heap.size w w' := by
  have HK := Lib.hid hok
  clear hok
  go_enter Try.func5, Try.ntmps5
  go_wp2_with fail
  refine (known6_any _).mono ?_
  rintro e u1 ⟨rfl, b1⟩
  go_wp2_with fail
  all_goals first
    | (go_ret; exact ⟨rfl, b1⟩)
    | (exfalso; have := HK.out; omega)
set_option maxHeartbeats 1600000 in
theorem walk (a0 : Option Addr) (len0 cap0 : Nat) (z0 : List Int) (a1 a2 a3 : Int) (w : World)
    (w0 : IsRow .u8 w a0 len0 cap0 z0) (w1 : (Lit.int .i64 a1).wf = true) (w2 : (Lit.int .i64 a2).wf = true) (w3 : (Lit.int .u8 a3).wf = true) :
    Calls Try.prog 5 #[.slice a0 len0 cap0, .int .i64 a1, .int .i64 a2, .int .u8 a3] w fun e w' => e = .returned (.bool true) ∧ Below w.heap.size w w' := by
  obtain ⟨c0, c1⟩ := bd_u8 w3
  have W0 := Lib.hid w0
  obtain ⟨i0, hi, hz0, hz1, hz2⟩ := info_parts infoU8
  clear w0 w3
  have V0 := Lib.hid (fun (v : World) (h : Below w.heap.size w v) => (W0.out.2.2.2.2.below h).more h.size)
  by_cases hok : len0 ≤ 3000 ∧ 0 ≤ a1 ∧ a1 < len0 ∧ 0 ≤ a2 ∧ a2 ≤ len0
  · obtain ⟨h0, h1, h2, h3, h4⟩ := hok
    obtain ⟨p, rfl⟩ := Int.eq_ofNat_of_zero_le h1
    obtain ⟨q, rfl⟩ := Int.eq_ofNat_of_zero_le h3
    have hq : q ≤ len0 := by omega
    have hcap := W0.out.2.1
    have hF := fnv_bd 2166136261 (by omega) (by omega) z0
    have hF1 := fnv_bd 2166136261 (by omega) (by omega) (z0.take q)
    have hF2 : fnv (fnv 2166136261 (z0.take q)) (z0.drop q) = fnv 2166136261 z0 := by rw [← fnv_append, List.take_append_drop]
    have hbt : ∀ i, 0 ≤ nth (z0.take q) i ∧ nth (z0.take q) i ≤ 255 := fun i => nth_mem (fun z => 0 ≤ z ∧ z ≤ 255) _ (fun z hz => bd_u8 (W0.out.2.2.2.1 z (List.mem_of_mem_take hz))) (by omega) i
    have hbd : ∀ i, 0 ≤ nth (z0.drop q) i ∧ nth (z0.drop q) i ≤ 255 := fun i => nth_mem (fun z => 0 ≤ z ∧ z ≤ 255) _ (fun z hz => bd_u8 (W0.out.2.2.2.1 z (List.mem_of_mem_drop hz))) (by omega) i
    have OF : ∀ v : World, Below w.heap.size w v → Calls Try.prog 12 #[.slice (some ⟨v.heap.size, 0, none⟩) 1 1] (v.alloc (.cells #[.slice a0 q cap0] 25)).drew fun e w' => e = .returned (.int .u32 (fnv 2166136261 (z0.take q))) ∧ Below w.heap.size w w' := by
      intro v hv
      have R := rdL_one v ⟨a0, q, cap0, z0.take q⟩ 25 ((V0.out v hv).front hq) hbt (by show q ≤ maxLen; unfold maxLen; omega)
      have B : Below v.heap.size v (v.alloc (.cells #[.slice a0 q cap0] 25)).drew := ((Below.refl v.heap.size v).alloc (Nat.le_refl _) _).drew
      have R2 := R.below ((Below.refl (v.alloc (.cells #[.slice a0 q cap0] 25)).heap.size (v.alloc (.cells #[.slice a0 q cap0] 25))).drew)
      refine (key_of_any _ 1 1 [⟨a0, q, cap0, z0.take q⟩] _ R2 (by unfold maxLen; omega)).mono ?_
      rintro e w' ⟨rfl, hb⟩
      rw [allOf_one]
      exact ⟨rfl, hv.trans ((B.mono hv.size).trans (hb.mono (by have := hv.size; simp; omega)))⟩
    have ON2 : ∀ v : World, Below w.heap.size w v → Calls Try.prog 15 #[.int .u32 2166136261, .slice a0 q cap0] v fun e w' => e = .returned (.int .u32 (fnv 2166136261 (z0.take q))) ∧ Below w.heap.size w w' := by
      intro v hv
      refine (on_any 2166136261 a0 q cap0 (z0.take q) (by omega) (by omega) v ((V0.out v hv).front hq) hbt (by unfold maxLen; omega)).mono ?_
      rintro e w' ⟨rfl, hb⟩
      exact ⟨rfl, hv.trans (hb.mono hv.size)⟩
    obtain ⟨A2, hA2⟩ : ∃ A2, (if cap0 = q then a0 else a0.map (·.add q)) = A2 := ⟨_, rfl⟩
    have hcut := fun W => cut_run a0 len0 cap0 q (by omega) (by omega) W A2 hA2
    have C0 := Lib.hid (fun (v : World) (h : Below w.heap.size w v) => by have := (V0.out v h).cut hq hcap; rw [hA2] at this; exact this)
    clear hA2
    have ON1 : ∀ v : World, Below w.heap.size w v → Calls Try.prog 15 #[.int .u32 (fnv 2166136261 (z0.take q)), .slice A2 (len0 - q) (cap0 - q)] v fun e w' => e = .returned (.int .u32 (fnv 2166136261 z0)) ∧ Below w.heap.size w w' := by
      intro v hv
      refine (on_any _ _ (len0 - q) _ (z0.drop q) hF1.1 hF1.2 v (C0.out v hv) hbd (by unfold maxLen; omega)).mono ?_
      rintro e w' ⟨rfl, hb⟩
      exact ⟨by rw [hF2], hv.trans (hb.mono hv.size)⟩
    have SM : ∀ v : World, Below w.heap.size w v → Calls Try.prog 16 #[.slice a0 len0 cap0, .slice a0 len0 cap0] v fun e w' => e = .returned (.bool true) ∧ Below w.heap.size w w' := by
      intro v hv
      refine (same_any a0 len0 cap0 z0 a0 len0 cap0 z0 v (V0.out v hv) (V0.out v hv) W0.out.bytes W0.out.bytes (by unfold maxLen; omega) (by unfold maxLen; omega)).mono ?_
      rintro e w' ⟨rfl, hb⟩
      exact ⟨by rw [beq_self_eq_true], hv.trans (hb.mono hv.size)⟩
    have HF2 := Lib.hid hF2
    have HBT := Lib.hid hbt
    have HBD := Lib.hid hbd
    clear hF2 hbt hbd
    go_enter Try.func5, Try.ntmps5
    go_wp2_with fail
    refine (known6_any _).mono ?_
    rintro e u1 ⟨rfl, b1⟩
    have H1 := Lib.hid (rdL_one u1 ⟨a0, len0, cap0, z0⟩ 25 (V0.out u1 b1) W0.out.bytes (by show len0 ≤ maxLen; unfold maxLen; omega))
    go_wp2_with fail
    refine (key_of_any _ 1 1 _ _ H1.out (by unfold maxLen; omega)).mono ?_
    rintro e u2 ⟨rfl, d2⟩
    rw [allOf_one]
    have b2 : Below w.heap.size w u2 := (b1.alloc b1.size _).trans (d2.mono (by simp; have := b1.size; omega))
    clear d2 b1 H1
    go_wp2_with fail
    have i1 : (0 : Int) ≤ (q : Int) := by omega
    have i2 : (q : Int) ≤ (len0 : Int) := by omega
    have i3 : (len0 : Int) ≤ (cap0 : Int) := by have := W0.out.2.1; omega
    have i4 : (q : Int) ≤ (cap0 : Int) := by omega
    have b3 := b2.drew
    generalize fnv 2166136261 (z0.take q) = F1 at *
    generalize hFF : fnv 2166136261 z0 = F at *
    have HFF := Lib.hid hFF
    clear hFF
    go_region_held3 (fun w' => Below w.heap.size w w') (first | assumption | exact (b2.alloc b2.size _).drew | go_keep) ((first | ((with_reducible refine (ON1 _ (by assumption)).mono ?_); rintro e w' ⟨rfl, bb⟩) | ((with_reducible refine (ON2 _ (by assumption)).mono ?_); rintro e w' ⟨rfl, bb⟩) | (go_at_call 16; refine (SM _ (by assumption)).mono ?_; rintro e w' ⟨rfl, bb⟩) | (go_at_call 12; refine (OF u2 b2).mono ?_; rintro e w' ⟨rfl, bb⟩) | (go_at_call 17; refine (start_any _).mono ?_; rintro e w' ⟨rfl, rfl⟩)))
    rename_i hB
    clear bb
    have HON := Lib.hid OF
    clear OF ON1 ON2 SM
    go_wp2_with (at_builtin; refine wpList_append_rd rfl _ _ 25 rfl w.heap.size 5 i0 (.int .u8 0) 1 Try.underlying25 hi hz0 hz1 hz2 rfl _ _ _ rfl (World.ownsRow_nil ..) w.heap.size .u8 a0 len0 cap0 z0 rfl ?c1 ?c2 ?c3 ?c4 ?_)
    case c1 => exact W0.out.2.2.2.2.below hB
    case c2 => unfold maxLen; omega
    case c3 => omega
    case c4 => exact hB.size
    intro v1 y1 o1 g1
    have P1 : y1.ownsRow w.heap.size 5 1 v1 len0 (valsOf .u8 z0) := by simpa using o1
    have B1 : Below w.heap.size w y1 := hB.grown g1 hB.size (by intro g hg; simp [Value.ownBlock] at hg)
    clear o1 g1 hB
    obtain ⟨g, cp, rfl, hg0⟩ : ∃ g cp, v1 = .slice (some ⟨g, 0, none⟩) len0 cp ∧ w.heap.size ≤ g := by
      rcases P1.2 with ⟨_, h⟩ | ⟨g, cp, cur, h, hg, _⟩
      · omega
      · exact ⟨g, cp, h, hg⟩
    have hp : p < len0 := by omega
    have hzp := W0.out.bytes p
    have CA : y1.cell? ⟨g, p, none⟩ = some (.int .u8 (nth z0 p)) := by
      rw [P1.cellAt p (by omega)]; unfold valsOf; rw [List.getElem?_map, List.getElem?_eq_getElem (by rw [W0.out.1]; exact hp), nth_eq z0 p (by rw [W0.out.1]; exact hp)]; rfl
    have FR : y1.frozen? ⟨g, p, none⟩ = false := P1.frozenAt p
    obtain ⟨P2, G2⟩ := P1.stored p (.int .u8 a3)
    have B2 : Below w.heap.size w (y1.setCell ⟨g, p, none⟩ (.int .u8 a3)) := B1.grown G2 B1.size (fun k hk => by simp at hk; omega)
    rw [vals_set] at P2
    have HS := Lib.hid (fnv_set 2166136261 (by omega) (by omega) z0 p a3 (by rw [W0.out.1]; exact hp) c0 c1 hzp.1 hzp.2)
    have j1 : (p : Int) < (len0 : Int) := by omega
    have hadd : (⟨g, 0, none⟩ : Addr).add p = ⟨g, p, none⟩ := by unfold Addr.add; split <;> simp_all
    clear P1 G2 B1
    have HP2 := Lib.hid P2
    have HB2 := Lib.hid B2
    clear P2 B2
    go_wp2_with fail
    generalize y1.setCell ⟨g, p, none⟩ (.int .u8 a3) = y2 at *
    obtain ⟨x, rfl, hx, hcell⟩ := W0.out.2.2.2.2.2 (by omega)
    have hsz := HB2.out.size
    have hc : y2.cell? (x.add p) = some (.int .u8 (nth z0 p)) := by
      rw [HB2.out.cell (by rw [block_add]; exact hx)]; exact hcell p hp
    clear hcell CA FR
    have bo : ∀ i, 0 ≤ nth (z0.set p a3) i ∧ nth (z0.set p a3) i ≤ 255 := fun i => nth_mem (fun z => 0 ≤ z ∧ z ≤ 255) _ (fun z hz => by
      rcases List.mem_or_eq_of_mem_set hz with h | h
      · exact bd_u8 (W0.out.2.2.2.1 z h)
      · subst h; exact ⟨c0, c1⟩) (by omega) i
    have ro : Rd y2 y2.heap.size .u8 (some ⟨g, 0, none⟩) len0 (z0.set p a3) := by
      obtain ⟨A, c, h1, _, h2⟩ := rd_own HP2.out
      cases h1
      exact h2
    have OF2 : Calls Try.prog 12 #[.slice (some ⟨y2.heap.size, 0, none⟩) 1 1] (y2.alloc (.cells #[.slice (some ⟨g, 0, none⟩) len0 cp] 25)).drew fun e w' => e = .returned (.int .u32 (fnv 2166136261 (z0.set p a3))) ∧ Below y2.heap.size y2 w' := by
      have R := rdL_one y2 ⟨some ⟨g, 0, none⟩, len0, cp, z0.set p a3⟩ 25 ro bo (by show len0 ≤ maxLen; unfold maxLen; omega)
      have R2 := R.below ((Below.refl (y2.alloc (.cells #[.slice (some ⟨g, 0, none⟩) len0 cp] 25)).heap.size (y2.alloc (.cells #[.slice (some ⟨g, 0, none⟩) len0 cp] 25))).drew)
      have B : Below y2.heap.size y2 (y2.alloc (.cells #[.slice (some ⟨g, 0, none⟩) len0 cp] 25)).drew := ((Below.refl y2.heap.size y2).alloc (Nat.le_refl _) _).drew
      refine (key_of_any _ 1 1 [⟨some ⟨g, 0, none⟩, len0, cp, z0.set p a3⟩] _ R2 (by unfold maxLen; omega)).mono ?_
      rintro e w' ⟨rfl, hb⟩
      rw [allOf_one]
      exact ⟨rfl, B.trans (hb.mono (by simp))⟩
    have SM2 : ∀ v : World, Below y2.heap.size y2 v → Calls Try.prog 16 #[.slice (some ⟨g, 0, none⟩) len0 cp, .slice (some x) len0 cap0] v fun e w' => e = .returned (.bool (fnv 2166136261 (z0.set p a3) == F)) ∧ Below y2.heap.size y2 w' := by
      intro v hv
      refine (same_any _ len0 cp (z0.set p a3) (some x) len0 cap0 z0 v ((ro.below hv).more hv.size) (V0.out v (HB2.out.trans (hv.mono hsz))) bo W0.out.bytes (by unfold maxLen; omega) (by unfold maxLen; omega)).mono ?_
      rintro e w' ⟨rfl, hb⟩
      exact ⟨by rw [HFF.out], hv.trans (hb.mono hv.size)⟩
    have E := HS.out
    rw [HFF.out] at E
    generalize fnv 2166136261 (z0.set p a3) = F3 at *
    generalize nth z0 p = d at *
    have B3 : Below y2.heap.size y2 y2.drew := (Below.refl _ _).drew
    have B4 : Below y2.heap.size y2 (y2.alloc (.cells #[.slice (some ⟨g, 0, none⟩) len0 cp] 25)).drew := ((Below.refl y2.heap.size y2).alloc (Nat.le_refl _) _).drew
    have hc4 : (y2.alloc (.cells #[.slice (some ⟨g, 0, none⟩) len0 cp] 25)).drew.cell? (x.add p) = some (.int .u8 d) := by
      rw [B4.cell (by rw [block_add]; omega)]; exact hc
    have j0 : (0 : Int) ≤ (p : Int) := by omega
    have HW := Lib.hid W0
    clear HON HP2 HBT HBD C0 W0 V0 hcut ro bo HS
    go_region_held3 (fun w' => Below y2.heap.size y2 w' ∧ w'.cell? (x.add p) = some (.int .u8 d)) (first | (refine ⟨bb, ?_⟩; rw [bb.cell (by rw [block_add]; omega)]; exact hc) | (refine ⟨B3, ?_⟩; rw [B3.cell (by rw [block_add]; omega)]; exact hc) | exact ⟨B4, hc4⟩ | go_keep) ((first | (go_at_call 12; refine OF2.mono ?_; rintro e w' ⟨rfl, bb⟩) | (go_at_call 16; refine (SM2 _ (by assumption)).mono ?_; rintro e w' ⟨rfl, bb⟩)))
    clear OF2 SM2 E HF2 HFF
    go_wp2_with fail
    go_ret
    exact ⟨rfl, HB2.out.trans (bb.mono hsz)⟩
  · exact walk_no a0 len0 cap0 z0 a1 a2 a3 w hok
theorem own : ownKnob Try.prog.godebug = none := by kernel_rfl
theorem laidOut : laidOutB Try.prog = true := by kernel_rfl
theorem contract (H : Type) (enc : TypeId × Value → H) (W : World) (base : Nat) (args : Array Value) (ds gs : List (DataW H)) (before : List MemPlace)
    (hval : ∀ (j : Nat) t v, Try.f5.params[j]? = some t → args[j]? = some v → Value.okWide Try.prog W .any base t v)
    (hW : DataW.Whole enc Try.prog Try.f5.params.toList Rows.keyMeansSpec.vars false W args.toList ds gs before) :
    Calls Try.prog 5 args W fun e W' => ∃ v, e = .returned v ∧ Rows.keyMeansSpec.post enc Try.prog Try.f5 false true false false W args v W' := by
  have hW' := hW
  obtain ⟨p, q, hA0, hV, rfl, hfz, hnd⟩ := hW
  have hA : DataW.TrodAll enc Try.prog W 0 (fun _ => true) true Try.f5.params.toList args.toList ds p := hA0
  rw [Try.params5] at hA hval
  obtain ⟨v0, vs0, d0, ds0, p0, q0, hargs, rfl, rfl, h0, r0⟩ := trodAll_cons hA
  obtain ⟨v1, vs1, d1, ds1, p1, q1, rfl, rfl, rfl, h1, r1⟩ := trodAll_cons r0
  obtain ⟨v2, vs2, d2, ds2, p2, q2, rfl, rfl, rfl, h2, r2⟩ := trodAll_cons r1
  obtain ⟨v3, vs3, d3, ds3, p3, q3, rfl, rfl, rfl, h3, r3⟩ := trodAll_cons r2
  obtain ⟨rfl, rfl, rfl⟩ := trodAll_nil r3
  obtain rfl : args = #[v0, v1, v2, v3] := by cases args; simp_all
  obtain ⟨rfl, rfl⟩ := trodVars_none hV
  obtain ⟨a0, len0, cap0, rfl⟩ := okWide_slice Try.underlying25 (hval 0 25 v0 rfl rfl)
  have k0 := h0
  have lt0 : ∀ x ∈ p0, x.block < W.heap.size := by obtain ⟨m, hm⟩ := k0; exact DataW.trod_lt m _ _ _ hm
  obtain ⟨z0, w0⟩ := isRow_of Try.underlying25 Try.underlying5 (by kernel_rfl) h0
  obtain ⟨a1, rfl, rfl, rfl, w1⟩ := open_int Try.underlying3 (hval 1 3 v1 rfl rfl) h1
  obtain ⟨a2, rfl, rfl, rfl, w2⟩ := open_int Try.underlying3 (hval 2 3 v2 rfl rfl) h2
  obtain ⟨a3, rfl, rfl, rfl, w3⟩ := open_int Try.underlying5 (hval 3 5 v3 rfl rfl) h3
  clear hA0
  refine (walk a0 len0 cap0 z0 a1 a2 a3 W w0 w1 w2 w3).mono fun e W' ⟨he, bel⟩ => ?_
  subst he
  exact ⟨_, rfl, _, _, _, [], _, [], hW', trodAll_mk1 (shut_bool Try.underlying4 _), (trodAll_cons_mk (Below.trod laidOut (by kernel_rfl) (of_decide_eq_true (by kernel_rfl)) k0 bel lt0) (trodAll_cons_mk (shut_int Try.underlying3 w1) (trodAll_cons_mk (shut_int Try.underlying3 w2) (trodAll_cons_mk (shut_int Try.underlying5 w3) trodAll_mk0)))), rfl, bel.frame _, fun h => by cases h⟩
set_option maxRecDepth 100000 in
theorem lifted (os : Os) (started : os.Started) (H : Type) (enc : TypeId × Value → H) :
    ReturnsInHanded {} Try.checked os 5 .any (Rows.keyMeansSpec.pre6 enc Try.prog Try.f5 Rows.keyMeansRow.domain false) (Rows.keyMeansSpec.post enc Try.prog Try.f5 false true false false) := by
  refine returnsInHanded_of_change (C := Try.checked) own started (by kernel_rfl) Try.func5
    (ChangeSpec.witness6 (enc := enc) (C := Try.checked) false ⟨#[], #[.slice none 0 0, .int .i64 0, .int .i64 0, .int .u8 0], []⟩ 8 (by kernel_rfl) (by kernel_rfl) (by kernel_rfl) (by kernel_rfl)) ?_
  intro W base args ds gs before hval hW hcnd _
  exact contract H enc W base args ds gs before hval hW
theorem said : Rows.KeyMeansSaid :=
  OpenClaim.holds_of_wide 5 Try.f5 rfl rfl rfl rfl rfl rfl rfl ⟨rfl, rfl, rfl, rfl, rfl⟩ rfl rfl rfl rfl rfl (by kernel_rfl) Try.func5 (by kernel_rfl)
    (of_decide_eq_true (by kernel_rfl)) (by unfold Func.isWrapper; first | (rw [if_pos (by decide +kernel)]; kernel_rfl) | (rw [if_neg (by decide +kernel)]; exact ⟨rfl, rfl⟩))
    (fun os started H enc _ => lifted os started H enc)
theorem proved : Rows.KeyMeansSaid := said
end Go.Proofs.Ytojifffenfmklaa.keyMeans
