/-
  A machine in memory: it is made, of a new store.
-/
import Derived.Test.YtlgdlaohfkgkfaaGreatMacE
import Derived.Test.YtlgdlaohfkgkfaaGreatBytesA
import Derived.Deep.CutRange
import Derived.Deep.RegionWith
import Derived.Laws.MakeOwn
namespace Go.Proofs.YtlgdlaohfkgkfaaGreat
open Go.ChangeShapes Go.WideShapes Go.ChangeAt Go.RowKit
set_option linter.unusedVariables false
set_option linter.unusedSimpArgs false
/-- a store that was just made -/
structure NewSt (w : World) (B q : Nat) : Prop where
  lo : B ≤ q
  hi : q < w.heap.size
  c0 : w.cell? ⟨q, 0, none⟩ = some (.bool true)
theorem NewSt.next {w V : World} {B q : Nat} (h : NewSt w B q) (hb : Below w.heap.size w V) : NewSt V B q :=
  ⟨h.lo, Nat.lt_of_lt_of_le h.hi hb.size, by rw [World.cell?_of_block (hb.block q h.hi)]; exact h.c0⟩
theorem newst_any (n : Nat) (hn : n ≤ 67108864) (w : World) : Calls Tryz.prog 6 #[.int .i64 (n : Int)] w fun e w' => ∃ q, e = .returned (.tuple #[.pointer (some ⟨q, 0, none⟩), .int .i64 0]) ∧ NewSt w' w.heap.size q ∧ Below w.heap.size w w' := by
  have d1 : decide ((n : Int) < 0) = false := by simp
  have d2 : decide ((n : Int) > 67108864) = false := by simp; omega
  have hmm := @run_makeMap Tryz.prog
  go_enter Tryz.func6, Tryz.ntmps6
  go_wp2_with fail
  go_ret2
  refine ⟨_, rfl, ⟨by simp, by simp, ?_⟩, (mbelow1 w _).alloc (by simp) _⟩
  simp
theorem stis_any {w : World} {B q : Nat} (h : NewSt w B q) : Calls Tryz.prog 64 #[.pointer (some ⟨q, 0, none⟩)] w fun e w' => e = .returned (.bool true) ∧ w' = w := by
  have c0 := h.c0
  go_enter Tryz.func64, Tryz.ntmps64
  go_wp2
  go_ret
  exact ⟨rfl, rfl⟩
theorem stmay_any (w : World) : Calls Tryz.prog 71 #[.string ⟨#[]⟩] w fun e w' => e = .returned (.bool false) ∧ w' = w := by
  go_enter Tryz.func71, Tryz.ntmps71
  go_wp2
  go_ret
  exact ⟨rfl, rfl⟩
theorem stfind_any {w : World} {B q : Nat} (h : NewSt w B q) : Calls Tryz.prog 41 #[.pointer (some ⟨q, 0, none⟩), .string ⟨#[]⟩] w fun e w' => e = .returned (.int .i64 2) ∧ w' = w := by
  have HI := Lib.hid (stis_any h)
  have HM := Lib.hid (stmay_any w)
  go_enter Tryz.func41, Tryz.ntmps41
  go_wp2_with (first | (go_at_call 64; (with_reducible refine HI.out.mono ?_); rintro e w' ⟨rfl, rfl⟩) | (go_at_call 71; (with_reducible refine HM.out.mono ?_); rintro e w' ⟨rfl, rfl⟩))
  go_ret
  exact ⟨rfl, rfl⟩
theorem stget_any {w : World} {B q : Nat} (h : NewSt w B q) : Calls Tryz.prog 23 #[.pointer (some ⟨q, 0, none⟩), .string ⟨#[]⟩] w fun e w' => e = .returned (.tuple #[.slice none 0 0, .int .i64 2]) ∧ w' = w := by
  have HI := Lib.hid (stfind_any h)
  go_enter Tryz.func23, Tryz.ntmps23
  go_wp2_with (first | (go_at_call 41; (with_reducible refine HI.out.mono ?_); rintro e w' ⟨rfl, rfl⟩))
  go_ret2
  exact ⟨rfl, rfl⟩
/-- out of its two blocks -/
theorem mk_mat {W : World} {B : Nat} {p : Mp} {m : Mc} {t u : TypeId} {cs ds : Array Value} (hb : W.heap[p.b]? = some (.cells cs t (0, 0))) (hcs : cs.toList = mcL p m) (hg : W.heap[p.g]? = some (.cells ds u (0, 0))) (hds : ∀ i, i < m.n → ds[i]? = some (.int .u8 (m.f i)))
    (bb : B ≤ p.b) (bg : B ≤ p.g) (ne : p.b ≠ p.g) (bd : ∀ i, 0 ≤ m.f i ∧ m.f i < 256) (n0 : 64 ≤ m.n) (n1 : m.n ≤ 16777216) : MAt W B p m := by
  have hsz : cs.size = 28 := by rw [← Array.length_toList, hcs]; rfl
  refine ⟨bb, bg, (Array.getElem?_eq_some_iff.1 hb).1, (Array.getElem?_eq_some_iff.1 hg).1, ne, fun j v hv => ?_, fun j hj => ⟨?_, ?_⟩, fun i hi => ?_, fun i hi => free_at hg i, bd, n0, n1⟩
  · rw [Nat.zero_add, cell_of_row W p.b j cs t _ hb, ← Array.getElem?_toList, hcs]; exact hv
  · rw [Nat.zero_add, cell_of_row W p.b j cs t _ hb, Array.getElem?_eq_getElem (by omega)]; rfl
  · rw [Nat.zero_add]; exact free_at hb j
  · rw [cell_of_row W p.g i ds u _ hg]; exact hds i hi
/-- a machine that was just made: nothing in its memory yet -/
def mNew (n ln : Nat) : Mc := ⟨mcpu0, n, fun _ => 0, 4 * (ln : Int), 0, 0⟩
/-- where its calls lie -/
structure ClAt (W : World) (B : Nat) (p : Mp) : Prop where
  lo : B ≤ p.cl
  nb : p.cl ≠ p.b
  ng : p.cl ≠ p.g
  own : W.ownsMap Tryz.prog 3 mheldE p.cl 13 callsD
theorem ownsMap_keep' {W V : World} {b n : Nat} {D : DataW Value} (h : W.ownsMap Tryz.prog 3 mheldE b n D) (hk : V.heap[b]? = W.heap[b]?) : V.ownsMap Tryz.prog 3 mheldE b n D := by
  obtain ⟨es, clock, hb, r⟩ := h
  exact ⟨es, clock, by rw [hk]; exact hb, r⟩
theorem ownsMap_lt {W : World} {b n : Nat} {D : DataW Value} (h : W.ownsMap Tryz.prog 3 mheldE b n D) : b < W.heap.size := by
  obtain ⟨es, clock, hb, r⟩ := h
  exact (Array.getElem?_eq_some_iff.1 hb).1
theorem ClAt.next {W V : World} {B : Nat} {p : Mp} (h : ClAt W B p) (hb : Below W.heap.size W V) : ClAt V B p := ⟨h.lo, h.nb, h.ng, ownsMap_keep' h.own (hb.block _ (ownsMap_lt h.own))⟩
theorem ClAt.chg {W V : World} {B : Nat} {p : Mp} (h : ClAt W B p) (hb : Chg p W V) : ClAt V B p := ⟨h.lo, h.nb, h.ng, ownsMap_keep' h.own (hb.block _ (ownsMap_lt h.own) h.nb h.ng)⟩
theorem made_get (n i : Nat) (h : i < n) : (madeCells #[.int .u8 0] n)[i]? = some (.int .u8 0) := by
  have : i % 1 = 0 := by omega
  simp [madeCells, h, this]
theorem make_run (n : Nat) (hn : n ≤ 16777216) (W : World) : (Instr.makeSlice 54 (.int .i64 (n : Int)) (.int .i64 (n : Int))).run Tryz.prog W = .ok (.slice (some ⟨W.heap.size, 0, none⟩) n n) (W.alloc (.cells (madeCells #[.int .u8 0] n) 5)) := by
  obtain ⟨i, e1, e2⟩ := Option.map_eq_some_iff.1 infoU8
  have h0 := (Prod.mk.inj e2).1
  have h1 := (Prod.mk.inj (Prod.mk.inj e2).2).1
  have h2 := (Prod.mk.inj (Prod.mk.inj e2).2).2
  have := run_make (P := Tryz.prog) W 54 5 i (.int .u8 0) Tryz.underlying54 e1 h0 .i64 .i64 (n : Int) (n : Int) (by omega) (Int.le_refl _) (by rw [h2]; omega) (by omega)
  rw [h1, Int.toNat_natCast, Nat.mul_one] at this
  exact this
def lstF (f : Nat → Int) (o : Nat) (l : List Int) (i : Nat) : Int := if o ≤ i ∧ i < o + l.length then nth l (i - o) else f i
theorem nth_cons0 (x : Int) (l : List Int) : nth (x :: l) 0 = x := rfl
theorem lstF_step (f : Nat → Int) (o : Nat) (x : Int) (l : List Int) : lstF (upd f o x) (o + 1) l = lstF f o (x :: l) := by
  funext i
  unfold lstF upd
  rw [List.length_cons]
  by_cases h : i = o
  · subst h
    rw [if_neg (by omega), if_pos rfl, if_pos (by omega), Nat.sub_self, nth_cons0]
  · by_cases h2 : o + 1 ≤ i ∧ i < o + 1 + l.length
    · rw [if_pos h2, if_pos (by omega)]
      obtain ⟨j, rfl⟩ : ∃ j, i = o + 1 + j := ⟨i - (o + 1), by omega⟩
      rw [show o + 1 + j - (o + 1) = j by omega, show o + 1 + j - o = j + 1 by omega]
      rfl
    · rw [if_neg h2, if_neg h, if_neg (by omega)]
theorem MAt.setList {B : Nat} {p : Mp} : ∀ (l : List Int) (o : Nat) (W : World) (m : Mc), MAt W B p m → o + l.length ≤ m.n → (∀ z ∈ l, 0 ≤ z ∧ z ≤ 255) → MAt (W.setCells p.g o (l.map (Value.int .u8))) B p { m with f := lstF m.f o l }
  | [], o, W, m, h, _, _ => by
    have e : lstF m.f o [] = m.f := by funext i; unfold lstF; rw [if_neg (by simp only [List.length_nil]; omega)]
    rw [e]; exact h
  | x :: l, o, W, m, h, hk, hb => by
    rw [List.map_cons, World.setCells]
    rw [List.length_cons] at hk
    have hx := hb x List.mem_cons_self
    have h1 := h.setByte o (by omega) x (by omega)
    have h2 := MAt.setList l (o + 1) _ _ h1 (by show o + 1 + l.length ≤ m.n; omega) (fun z hz => hb z (List.mem_cons_of_mem _ hz))
    have e := lstF_step m.f o x l
    rw [← e]
    exact h2
theorem copy_run {W : World} {B : Nat} {p : Mp} {m : Mc} (h : MAt W B p m) (A : Option Addr) (l c : Nat) (zs : List Int) (hr : Rd W W.heap.size .u8 A l zs) (hl : l ≤ m.n) (ty : TypeId) :
    (Builtin.copy_ #[54, 54] ty #[.slice (some ⟨p.g, 0, none⟩) m.n m.n, .slice A l c]).run Tryz.prog W = .ok (goInt l) (W.setCells p.g 0 (zs.map (Value.int .u8))) := by
  have hi : (Tryz.prog.info? 5).map (·.size) = some 1 := by kernel_rfl
  rcases Nat.eq_zero_or_pos l with rfl | h0
  · have : zs = [] := List.eq_nil_of_length_eq_zero hr.1
    subst this
    exact run_copy_none W _ _ ty 5 _ A _ _ _ _ Tryz.underlying54 hi (by simp)
  · obtain ⟨x, rfl, -, hc⟩ := hr.2 h0
    have hlen : (zs.map (Value.int .u8)).length = l := by rw [List.length_map, hr.1]
    have := run_copy_cells (P := Tryz.prog) W 54 54 ty 5 p.g 0 m.n m.n x l c (zs.map (Value.int .u8)) Tryz.underlying54 hi (by rw [hlen]; exact (Nat.min_eq_left hl).symm)
      (fun j v hv => by
        rw [List.getElem?_map] at hv
        obtain ⟨y, hy, rfl⟩ := Option.map_eq_some_iff.1 hv
        obtain ⟨hlt, rfl⟩ := List.getElem?_eq_some_iff.1 hy
        rw [hc j (by have := hr.1; omega), nth_eq zs j hlt])
      (fun j hj => by rw [Nat.zero_add, h.fm j (by omega)]; rfl) (fun j hj => by rw [Nat.zero_add]; exact h.ft j (by omega))
      (fun v hv => by obtain ⟨y, -, rfl⟩ := List.mem_map.1 hv; rfl)
    rw [hlen] at this
    exact this
theorem ends_a {w v1 : World} {n ln q : Nat} {t u : TypeId} {CS : Array Value} (n0 : 64 ≤ n) (n1 : n ≤ 16777216) (ho1 : v1.ownsMap Tryz.prog 3 mheldE (w.alloc (.cells (madeCells #[.int .u8 0] n) u)).drew.heap.size 13 callsD) (hb1 : Below (w.alloc (.cells (madeCells #[.int .u8 0] n) u)).drew.heap.size (w.alloc (.cells (madeCells #[.int .u8 0] n) u)).drew v1)
    (hcs : CS.toList = mcL ⟨v1.heap.size, w.heap.size, w.heap.size + 1, .pointer (some ⟨q, 0, none⟩)⟩ (mNew n ln)) :
    ∃ p : Mp, Value.pointer (some ⟨v1.heap.size, 0, none⟩) = .pointer (some ⟨p.b, 0, none⟩) ∧ p.st = .pointer (some ⟨q, 0, none⟩) ∧ Hid (MAt (v1.alloc (.cells CS t)) w.heap.size p (mNew n ln)) ∧ Hid (ClAt (v1.alloc (.cells CS t)) w.heap.size p) ∧ Hid (Below w.heap.size w (v1.alloc (.cells CS t))) := by
  have e : (w.alloc (.cells (madeCells #[.int .u8 0] n) u)).drew.heap.size = w.heap.size + 1 := by simp
  rw [e] at ho1 hb1
  have hs := hb1.size
  rw [e] at hs
  have hl := ownsMap_lt ho1
  have hg : (v1.alloc (.cells CS t)).heap[w.heap.size]? = some (.cells (madeCells #[.int .u8 0] n) u) :=
    ((mbelow1 v1 _).block _ (by omega)).trans ((hb1.block w.heap.size (by omega)).trans (heap_alloc_last w _))
  refine ⟨⟨v1.heap.size, w.heap.size, w.heap.size + 1, .pointer (some ⟨q, 0, none⟩)⟩, rfl, rfl, Lib.hid (mk_mat (heap_alloc_last v1 _) hcs hg (fun i hi => made_get n i hi) (by show w.heap.size ≤ v1.heap.size; omega) (Nat.le_refl _) (by show v1.heap.size ≠ w.heap.size; omega) (fun i => ⟨Int.le_refl _, by show (0 : Int) < 256; omega⟩) n0 n1),
    Lib.hid ⟨by show w.heap.size ≤ w.heap.size + 1; omega, by show w.heap.size + 1 ≠ v1.heap.size; omega, by show w.heap.size + 1 ≠ w.heap.size; omega, ownsMap_keep' ho1 ((mbelow1 v1 _).block _ hl)⟩, Lib.hid (((mbelow1 w _).drew.trans (hb1.mono (by omega))).trans ((mbelow1 v1 _).mono (by omega)))⟩
theorem ends_b {w v1 : World} {n ln q : Nat} {t u : TypeId} {CS : Array Value} (n0 : 64 ≤ n) (n1 : n ≤ 16777216) (ho1 : v1.ownsMap Tryz.prog 3 mheldE w.drew.heap.size 13 callsD) (hb1 : Below w.drew.heap.size w.drew v1)
    (hcs : CS.toList = mcL ⟨v1.heap.size + 1, v1.heap.size, w.heap.size, .pointer (some ⟨q, 0, none⟩)⟩ (mNew n ln)) :
    ∃ p : Mp, Value.pointer (some ⟨v1.heap.size + 1, 0, none⟩) = .pointer (some ⟨p.b, 0, none⟩) ∧ p.st = .pointer (some ⟨q, 0, none⟩) ∧ Hid (MAt ((v1.alloc (.cells (madeCells #[.int .u8 0] n) u)).alloc (.cells CS t)) w.heap.size p (mNew n ln)) ∧ Hid (ClAt ((v1.alloc (.cells (madeCells #[.int .u8 0] n) u)).alloc (.cells CS t)) w.heap.size p) ∧ Hid (Below w.heap.size w ((v1.alloc (.cells (madeCells #[.int .u8 0] n) u)).alloc (.cells CS t))) := by
  have e : w.drew.heap.size = w.heap.size := rfl
  rw [e] at ho1 hb1
  have hs := hb1.size
  rw [e] at hs
  have hl := ownsMap_lt ho1
  have e2 : (v1.alloc (.cells (madeCells #[.int .u8 0] n) u)).heap.size = v1.heap.size + 1 := by simp
  have hb := heap_alloc_last (v1.alloc (.cells (madeCells #[.int .u8 0] n) u)) (.cells CS t)
  rw [e2] at hb
  have hB := (mbelow1 v1 (.cells (madeCells #[.int .u8 0] n) u)).alloc (by omega) (.cells CS t)
  have hg : ((v1.alloc (.cells (madeCells #[.int .u8 0] n) u)).alloc (.cells CS t)).heap[v1.heap.size]? = some (.cells (madeCells #[.int .u8 0] n) u) :=
    ((mbelow1 _ _).block _ (by omega)).trans (heap_alloc_last v1 _)
  refine ⟨⟨v1.heap.size + 1, v1.heap.size, w.heap.size, .pointer (some ⟨q, 0, none⟩)⟩, rfl, rfl, Lib.hid (mk_mat hb hcs hg (fun i hi => made_get n i hi) (by show w.heap.size ≤ v1.heap.size + 1; omega) (by show w.heap.size ≤ v1.heap.size; omega) (by show v1.heap.size + 1 ≠ v1.heap.size; omega) (fun i => ⟨Int.le_refl _, by show (0 : Int) < 256; omega⟩) n0 n1),
    Lib.hid ⟨Nat.le_refl _, by show w.heap.size ≠ v1.heap.size + 1; omega, by show w.heap.size ≠ v1.heap.size; omega, ownsMap_keep' ho1 (hB.block _ hl)⟩, Lib.hid (((Below.refl _ _).drew.trans hb1).trans (hB.mono (by omega)))⟩
set_option maxHeartbeats 4000000 in
set_option maxRecDepth 100000 in
theorem mnew_any {B q : Nat} (n ln c : Nat) (A : Option Addr) (zs : List Int) (w : World) (hq : NewSt w B q) (hr : Rd w w.heap.size .u32 A ln zs) (hz : ∀ i, 0 ≤ nth zs i ∧ nth zs i ≤ 4294967295) (n0 : 64 ≤ n) (n1 : n ≤ 16777216) (n4 : n % 4 = 0) (hl : 4 * ln ≤ n) :
    Calls Tryz.prog 7 #[.int .i64 (n : Int), .slice A ln c, .pointer (some ⟨q, 0, none⟩)] w fun e w' => ∃ p, e = .returned (.tuple #[.pointer (some ⟨p.b, 0, none⟩), .int .i64 0]) ∧ p.st = .pointer (some ⟨q, 0, none⟩) ∧ MAt w' w.heap.size p { mNew n ln with cpu := { mcpu0 with r := upd (fun _ => 0) 14 n }, f := fun i => nth (bytesOf zs) i } ∧ ClAt w' w.heap.size p ∧ Below w.heap.size w w' := by
  have HG := Lib.hid (stget_any hq)
  have h4 : ((n : Int) % 4 != 0) = false := by simp; omega
  have h5 : (decide ((ln : Int) > (n : Int).tdiv 4)) = false := by rw [Int.tdiv_eq_ediv_of_nonneg (by omega)]; simp; omega
  go_enter Tryz.func7, Tryz.ntmps7
  go_wp2_with (go_at_call 23; (with_reducible refine HG.out.mono ?_); rintro e w' ⟨rfl, rfl⟩)
  have HMK := fun W => make_run n n1 W
  have hw1 : IntKind.i64.wrap (4 * (ln : Int)) = 4 * (ln : Int) := by rw [IntKind.wrap_i64]; omega
  have hw2 : IntKind.u32.wrap (4 * (ln : Int)) = 4 * (ln : Int) := by rw [IntKind.wrap_u32]; omega
  go_cut [10] from 11 (fun v W => ∃ p : Mp, v = .pointer (some ⟨p.b, 0, none⟩) ∧ p.st = .pointer (some ⟨q, 0, none⟩) ∧ Hid (MAt W w'.heap.size p (mNew n ln)) ∧ Hid (ClAt W w'.heap.size p) ∧ Hid (Below w'.heap.size w' W))
  case first =>
    go_region_with (go_at_call 24; (with_reducible refine (calls_any _).mono ?_); rintro e v1 ⟨rfl, ho1, hb1⟩)
    all_goals
      go_wp2_with fail
      go_meet
      case rel =>
        first
          | exact ends_a n0 n1 ho1 hb1 rfl
          | exact ends_b n0 n1 ho1 hb1 rfl
  case rest =>
    obtain ⟨p, rfl, hst, HM, HC, HB⟩ := hcut
    clear hw1 hw2 HMK h4 h5
    have HST := Lib.hid hst
    clear hst
    have k22 : wc.cell? ⟨p.b, 22, none⟩ = some (.slice (some ⟨p.g, 0, none⟩) n n) := HM.out.mem
    go_wp2_with fail
    have HR : Hid (Rd wc.drew wc.drew.heap.size .u32 A ln zs) := Lib.hid (((hr.below HB.out).more HB.out.size))
    replace HM := Lib.hid HM.out.drew
    have k22 : wc.drew.cell? ⟨p.b, 22, none⟩ = some (.slice (some ⟨p.g, 0, none⟩) n n) := HM.out.mem
    have b9 : Below w'.heap.size w' wc.drew := HB.out.drew
    have hbl : (bytesOf zs).length = 4 * ln := by have := HR.out.1; rw [bytesOf_length, this]
    have HBL := Lib.hid hbl
    clear hbl
    go_region_held3 (fun V => Below w'.heap.size w' V ∧ V.cell? ⟨p.b, 22, none⟩ = some (.slice (some ⟨p.g, 0, none⟩) n n))
      (first | exact ⟨by assumption, by assumption⟩ | go_keep)
      ((go_at_call 25; (with_reducible refine (bytes_any A ln c zs _ HR.out hz (by omega)).mono ?_); rintro e v1 ⟨v, rfl, how, hb1⟩; obtain ⟨A2, c2, rfl, -, hrd⟩ := rd_of_own how; have HM1 := Lib.hid (HM.out.next hb1); have HC1 := Lib.hid ((HC.out.next (Below.refl _ _).drew).next hb1); have hcp : ∀ ty, (Builtin.copy_ #[54, 54] ty #[.slice (some ⟨p.g, 0, none⟩) n n, .slice A2 (4 * ln) c2]).run Tryz.prog v1 = .ok (goInt (4 * ln : Nat)) (v1.setCells p.g 0 ((bytesOf zs).map (Value.int .u8))) := fun ty => copy_run HM1.out A2 (4 * ln) c2 (bytesOf zs) hrd (by show 4 * ln ≤ n; omega) ty; have HM2 := Lib.hid (MAt.setList (bytesOf zs) 0 v1 _ HM1.out (by rw [HBL.out, Nat.zero_add]; show 4 * ln ≤ n; omega) (bytesOf_bd zs)); have hcg := Chg.setCells p.g (.inr rfl) ((bytesOf zs).map (Value.int .u8)) 0 v1 (Chg.refl p v1); have HC2 := Lib.hid (HC1.out.chg hcg); replace b9 := b9.trans (hb1.mono b9.size); replace k22 : v1.cell? ⟨p.b, 22, none⟩ = some (.slice (some ⟨p.g, 0, none⟩) n n) := HM1.out.mem; have k23 : (v1.setCells p.g 0 ((bytesOf zs).map (Value.int .u8))).cell? ⟨p.b, 22, none⟩ = some (.slice (some ⟨p.g, 0, none⟩) n n) := HM2.out.mem; have b10 := b9.trans (hcg.below HM1.out.bb HM1.out.bg b9.size); clear how hb1 hrd hcg))
    have HM3 : Hid (MAt (v1.setCells p.g 0 ((bytesOf zs).map (Value.int .u8))) w'.heap.size p { mNew n ln with f := fun i => nth (bytesOf zs) i }) := Lib.hid (by
      have e : lstF (mNew n ln).f 0 (bytesOf zs) = fun i => nth (bytesOf zs) i := by
        funext i
        unfold lstF
        by_cases h : i < (bytesOf zs).length
        · rw [if_pos (by omega), Nat.sub_zero]
        · rw [if_neg (by omega), nth_ge _ _ (by omega)]; rfl
      have := HM2.out
      rw [e] at this
      exact this)
    have HB10 := Lib.hid b10
    clear HM2 HM1 HC1 hcp k22 k23 b9 b10 HM
    generalize v1.setCells p.g 0 ((bytesOf zs).map (Value.int .u8)) = W3 at *
    have k14 : W3.cell? ⟨p.b, 14, none⟩ = some (.int .u32 0) := HM3.out.rg 14 (by omega)
    have z14 := HM3.out.fz 14 (by omega)
    go_wp2_with fail
    go_ret2
    refine ⟨p, rfl, HST.out, HM3.out.put 14 [.int .u32 (n : Int)] _ (by simp) rfl rfl rfl, HC2.out.chg ((Chg.refl p W3).setCell _ (.inl rfl)), HB10.out.trans (((Chg.refl p W3).setCell _ (.inl rfl)).below HM3.out.bb HM3.out.bg HB10.out.size)⟩
end Go.Proofs.YtlgdlaohfkgkfaaGreat
