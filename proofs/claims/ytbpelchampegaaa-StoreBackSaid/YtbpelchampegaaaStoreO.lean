/-
  A store told by its files (name, bytes, whether a rider stands on it), its riders and its directory.
-/
import Derived.Test.YtbpelchampegaaaStoreN
namespace Go.Proofs.Ytbpelchampegaaa
open Go.ChangeShapes Go.WideShapes Go.ChangeAt Go.RowKit
set_option linter.unusedVariables false
def FileM.key (f : FileM) : ByteArray × List Int × Bool := (f.nm, f.xs, f.rid)
/-- what the directory has, by a function of the name -/
def Dir (s : StM) (dir : ByteArray → Option Nat) : Prop := ∀ nm : ByteArray, (dir nm = none ∧ s.dir nm = .held (.pointer none)) ∨ ∃ k q, dir nm = some k ∧ s.fs[k]? = some q ∧ s.dir nm = .held (.pointer (some ⟨q.blk, 0, none⟩))
def Stk (W : World) (B p cap used : Nat) (fs : List (ByteArray × List Int × Bool)) (rs : List (Nat × Nat)) (dir : ByteArray → Option Nat) (m : Nat) : Prop :=
  ∃ s g, StoreAt W B p s g ∧ s.cap = cap ∧ s.used = used ∧ s.fs.map FileM.key = fs ∧ s.rs = rs ∧ Dir s dir ∧ s.mn ≤ m ∧ B ≤ W.heap.size
def dirSet (dir : ByteArray → Option Nat) (nm : ByteArray) (k : Option Nat) : ByteArray → Option Nat := fun x => if x.data.toList = nm.data.toList then k else dir x
theorem dirSet_same (dir : ByteArray → Option Nat) (nm : ByteArray) (k : Option Nat) : dirSet dir nm k nm = k := if_pos rfl
theorem dirSet_twice (dir : ByteArray → Option Nat) (nm : ByteArray) (k l : Option Nat) : dirSet (dirSet dir nm k) nm l = dirSet dir nm l := by
  funext x
  unfold dirSet
  split <;> rfl
theorem key_of {s : StM} {k : Nat} {f : ByteArray × List Int × Bool} (h : (s.fs.map FileM.key)[k]? = some f) : ∃ q : FileM, s.fs[k]? = some q ∧ q.nm = f.1 ∧ q.xs = f.2.1 ∧ q.rid = f.2.2 := by
  rw [List.getElem?_map] at h
  obtain ⟨q, h1, h2⟩ := Option.map_eq_some_iff.1 h
  subst h2
  exact ⟨q, h1, rfl, rfl, rfl⟩
theorem map_key_set {fs : List FileM} {k : Nat} {q' : FileM} : (fs.set k q').map FileM.key = (fs.map FileM.key).set k q'.key := by rw [List.map_set]
theorem dir_same {s s' : StM} (hD : s'.D = s.D) (nm : ByteArray) : s'.dir nm = s.dir nm := by unfold StM.dir; rw [hD]
theorem Dir.setFile {s s' : StM} {dir : ByteArray → Option Nat} (h : Dir s dir) {k : Nat} {q q' : FileM} (hq : s.fs[k]? = some q) (hb : q'.blk = q.blk) (hfs : s'.fs = s.fs.set k q') (hD : s'.D = s.D) : Dir s' dir := fun nm => by
  rcases h nm with ⟨h1, h2⟩ | ⟨j, q2, h1, h2, h3⟩
  · exact .inl ⟨h1, by rw [dir_same hD]; exact h2⟩
  · refine .inr ?_
    by_cases e : k = j
    · subst e
      rw [hq] at h2
      cases h2
      exact ⟨k, q', h1, by rw [hfs, List.getElem?_set_self (List.getElem?_eq_some_iff.1 hq).1], by rw [dir_same hD, hb]; exact h3⟩
    · exact ⟨j, q2, h1, by rw [hfs, List.getElem?_set_ne e]; exact h2, by rw [dir_same hD]; exact h3⟩
theorem Dir.more {s s' : StM} {dir : ByteArray → Option Nat} (h : Dir s dir) {f : FileM} (hfs : s'.fs = s.fs ++ [f]) (hD : s'.D = s.D) : Dir s' dir := fun nm => by
  rcases h nm with ⟨h1, h2⟩ | ⟨j, q2, h1, h2, h3⟩
  · exact .inl ⟨h1, by rw [dir_same hD]; exact h2⟩
  · exact .inr ⟨j, q2, h1, by rw [hfs, List.getElem?_append_left (List.getElem?_eq_some_iff.1 h2).1]; exact h2, by rw [dir_same hD]; exact h3⟩
theorem Dir.same {s s' : StM} {dir : ByteArray → Option Nat} (h : Dir s dir) (hfs : s'.fs = s.fs) (hD : s'.D = s.D) : Dir s' dir := fun nm => by
  rcases h nm with ⟨h1, h2⟩ | ⟨j, q2, h1, h2, h3⟩
  · exact .inl ⟨h1, by rw [dir_same hD]; exact h2⟩
  · exact .inr ⟨j, q2, h1, by rw [hfs]; exact h2, by rw [dir_same hD]; exact h3⟩
theorem Dir.out {s s' : StM} {dir : ByteArray → Option Nat} (h : Dir s dir) {nm : ByteArray} (hfs : s'.fs = s.fs) (hD : s'.D = s.D.del (.string nm.data.toList)) : Dir s' (dirSet dir nm none) := fun x => by
  by_cases e : x.data.toList = nm.data.toList
  · left
    refine ⟨if_pos e, ?_⟩
    unfold StM.dir
    rw [hD, e]
    exact Maps.atKey_del_same _
  · have hd : s'.dir x = s.dir x := by
      unfold StM.dir
      rw [hD]
      exact Maps.atKey_del_other (by simpa using e) _
    rcases h x with ⟨h1, h2⟩ | ⟨j, q2, h1, h2, h3⟩
    · exact .inl ⟨by unfold dirSet; rw [if_neg e]; exact h1, by rw [hd]; exact h2⟩
    · exact .inr ⟨j, q2, by unfold dirSet; rw [if_neg e]; exact h1, by rw [hfs]; exact h2, by rw [hd]; exact h3⟩
theorem Dir.put {s s' : StM} {dir : ByteArray → Option Nat} (h : Dir s dir) (hm : Maps.IsMap s.D) {nm : ByteArray} {k : Nat} {q : FileM} (hfs : ∀ (j : Nat) (f : FileM), s.fs[j]? = some f → s'.fs[j]? = some f) (hq : s'.fs[k]? = some q) (hD : s'.D = s.D.put (.string nm.data.toList) (.held (.pointer (some ⟨q.blk, 0, none⟩)))) : Dir s' (dirSet dir nm (some k)) := fun x => by
  by_cases e : x.data.toList = nm.data.toList
  · right
    refine ⟨k, q, if_pos e, hq, ?_⟩
    unfold StM.dir
    rw [hD, e]
    exact Maps.atKey_put_same hm (keyLit _) _ _
  · have hd : s'.dir x = s.dir x := by
      unfold StM.dir
      rw [hD]
      exact Maps.atKey_put_other (by simpa using e) _ _
    rcases h x with ⟨h1, h2⟩ | ⟨j, q2, h1, h2, h3⟩
    · exact .inl ⟨by unfold dirSet; rw [if_neg e]; exact h1, by rw [hd]; exact h2⟩
    · exact .inr ⟨j, q2, by unfold dirSet; rw [if_neg e]; exact h1, hfs j q2 h2, by rw [hd]; exact h3⟩
section
variable {W : World} {B p cap used m : Nat} {fs : List (ByteArray × List Int × Bool)} {rs : List (Nat × Nat)} {dir : ByteArray → Option Nat}
theorem Stk.rest {V : World} (h : Stk W B p cap used fs rs dir m) (hr : Rest W V) : Stk V B p cap used fs rs dir m := by
  obtain ⟨s, g, h1, h2, h3, h4, h5, h6, h7, h8⟩ := h
  exact ⟨s, g, h1.rest hr, h2, h3, h4, h5, h6, h7, by rw [hr.heap]; exact h8⟩
theorem Stk.below {V : World} (h : Stk W B p cap used fs rs dir m) (hr : Below W.heap.size W V) : Stk V B p cap used fs rs dir m := by
  obtain ⟨s, g, h1, h2, h3, h4, h5, h6, h7, h8⟩ := h
  exact ⟨s, g, h1.below hr, h2, h3, h4, h5, h6, h7, Nat.le_trans h8 hr.size⟩
theorem Stk.new {w' : World} {n mb : Nat} {g : Nat → Tag} (h : StoreAt w' B p (St0 n mb) g) (hb : B ≤ w'.heap.size) : Stk w' B p n 0 [] [] (fun _ => none) 0 :=
  ⟨_, g, h, rfl, rfl, rfl, rfl, fun nm => .inl ⟨rfl, rfl⟩, by simp [St0], hb⟩
theorem Stk.dirAt {s : StM} (h6 : Dir s dir) {nm : ByteArray} {k : Nat} (hd : dir nm = some k) {f : ByteArray × List Int × Bool} (hk : (s.fs.map FileM.key)[k]? = some f) : ∃ q : FileM, s.fs[k]? = some q ∧ q.nm = f.1 ∧ q.xs = f.2.1 ∧ q.rid = f.2.2 ∧ s.dir nm = .held (.pointer (some ⟨q.blk, 0, none⟩)) := by
  obtain ⟨q, h1, h2, h3, h4⟩ := key_of hk
  rcases h6 nm with ⟨e, -⟩ | ⟨k2, q2, e, e2, e3⟩
  · rw [hd] at e; cases e
  · rw [hd] at e
    cases e
    rw [h1] at e2
    cases e2
    exact ⟨q, h1, h2, h3, h4, e3⟩
theorem Stk.dirNo {s : StM} (h6 : Dir s dir) {nm : ByteArray} (hd : dir nm = none) : s.dir nm = .held (.pointer none) := by
  rcases h6 nm with ⟨-, e⟩ | ⟨k2, q2, e, -⟩
  · exact e
  · rw [hd] at e; cases e
theorem Stk.put (h : Stk W B p cap used fs rs dir m) {nm : ByteArray} (hs : nm.size ≤ maxLen) (hm : May W nm) (hd : dir nm = none) (hmn : m ≤ 100) {A : Option Addr} {n c : Nat} {zs : List Int} (hrd : Rd W W.heap.size .u8 A n zs) (hz : ∀ z ∈ zs, 0 ≤ z ∧ z ≤ 255) (hfit : used + n ≤ cap) :
    Calls Try.prog 10 #[.pointer (some ⟨p, 0, none⟩), .string nm, .slice A n c] W fun e w' => e = .returned (.int .i64 0) ∧ Stk w' B p cap (used + n) (fs ++ [(nm, zs, false)]) rs (dirSet dir nm (some fs.length)) (m + 1) ∧ Below B W w' := by
  obtain ⟨s, g, h1, rfl, rfl, rfl, rfl, h6, h7, h8⟩ := h
  refine (put_new h1 h8 hs hm (Stk.dirNo h6 hd) (by omega) hrd hz hfit).mono fun e w' ⟨he, v, blk, g', hs2, hb⟩ => ⟨he, ⟨_, g', hs2, rfl, rfl, by simp [FileM.key], rfl, ?_, by show s.mn + 1 ≤ m + 1; omega, Nat.le_trans h8 hb.size⟩, hb⟩
  refine Dir.put (q := ⟨blk, nm, v, zs, false⟩) h6 h1.hm.isMap (fun j f hf => ?_) ?_ rfl
  · show (s.fs ++ _)[j]? = _
    rw [List.getElem?_append_left (List.getElem?_eq_some_iff.1 hf).1]; exact hf
  · show (s.fs ++ _)[(s.fs.map FileM.key).length]? = _
    rw [List.length_map, List.getElem?_append_right (Nat.le_refl _), Nat.sub_self]; rfl
theorem Stk.old (h : Stk W B p cap used fs rs dir m) {nm : ByteArray} (hs : nm.size ≤ maxLen) {k : Nat} (hd : dir nm = some k) {f : ByteArray × List Int × Bool} (hk : fs[k]? = some f) (hl : rs.length < 255) :
    Calls Try.prog 11 #[.pointer (some ⟨p, 0, none⟩), .string nm] W fun e w' => e = .returned (.int .i64 ((rs.length : Int) + 1)) ∧ Stk w' B p cap used (fs.set k (f.1, f.2.1, true)) (rs ++ [(k, 0)]) dir m ∧ Below B W w' := by
  obtain ⟨s, g, h1, rfl, rfl, rfl, rfl, h6, h7, h8⟩ := h
  obtain ⟨q, hq, e1, e2, e3, hdd⟩ := Stk.dirAt h6 hd hk
  refine (old_yes h1 h8 hs hq hdd hl).mono fun e w' ⟨he, ⟨rv, g', hs⟩, hb⟩ => ⟨he, ⟨_, g', hs, rfl, rfl, ?_, rfl, h6.setFile (s' := s.rode k q rv) (q' := { q with rid := true }) hq rfl rfl rfl, h7, Nat.le_trans h8 hb.size⟩, hb⟩
  show (s.fs.set k { q with rid := true }).map FileM.key = _
  rw [map_key_set, ← e1, ← e2]
  rfl
theorem Stk.old_no (h : Stk W B p cap used fs rs dir m) {nm : ByteArray} (hs : nm.size ≤ maxLen) (hd : dir nm = none) : Calls Try.prog 11 #[.pointer (some ⟨p, 0, none⟩), .string nm] W fun e w' => e = .returned (.int .i64 0) ∧ w' = W := by
  obtain ⟨s, g, h1, rfl, rfl, rfl, rfl, h6, h7, h8⟩ := h
  exact Proofs.Ytbpelchampegaaa.old_no h1 hs (Stk.dirNo h6 hd)
theorem Stk.fresh (h : Stk W B p cap used fs rs dir m) {nm : ByteArray} (hs : nm.size ≤ maxLen) (hm : May W nm) (hl : rs.length < 255) :
    Calls Try.prog 12 #[.pointer (some ⟨p, 0, none⟩), .string nm] W fun e w' => e = .returned (.int .i64 ((rs.length : Int) + 1)) ∧ Stk w' B p cap used (fs ++ [(nm, [], true)]) (rs ++ [(fs.length, 0)]) dir m ∧ Below B W w' := by
  obtain ⟨s, g, h1, rfl, rfl, rfl, rfl, h6, h7, h8⟩ := h
  refine (fresh_any h1 h8 hs hm hl).mono fun e w' ⟨he, ⟨rv, blk, g', hs⟩, hb⟩ => ⟨he, ⟨_, g', hs, rfl, rfl, by simp [FileM.key], by simp, Dir.more h6 rfl rfl, h7, Nat.le_trans h8 hb.size⟩, hb⟩
theorem Stk.at_ (h : Stk W B p cap used fs rs dir m) {f : Int} {i k a : Nat} (hf : f = (i : Int) + 1) (hi : rs[i]? = some (k, a)) : Calls Try.prog 23 #[.pointer (some ⟨p, 0, none⟩), .int .i64 f] W fun e w' => e = .returned (.int .i64 (a : Int)) ∧ w' = W := by
  obtain ⟨s, g, h1, h2, h3, h4, rfl, h6, h7⟩ := h
  obtain ⟨b, c, hR, -, -⟩ := h1.rid hi hf
  exact at_any h1 hR
theorem Stk.length (h : Stk W B p cap used fs rs dir m) {f : Int} {i k a : Nat} (hf : f = (i : Int) + 1) (hi : rs[i]? = some (k, a)) {x : ByteArray × List Int × Bool} (hk : fs[k]? = some x) : Calls Try.prog 17 #[.pointer (some ⟨p, 0, none⟩), .int .i64 f] W fun e w' => e = .returned (.int .i64 (x.2.1.length : Nat)) ∧ w' = W := by
  obtain ⟨s, g, h1, h2, h3, rfl, rfl, h6, h7, h8⟩ := h
  obtain ⟨b, c, hR, -, -⟩ := h1.rid hi hf
  obtain ⟨q, hq, -, e2, -⟩ := key_of hk
  rw [← e2]
  exact length_any h1 hR hq
theorem Stk.eof (h : Stk W B p cap used fs rs dir m) {f : Int} {i k a : Nat} (hf : f = (i : Int) + 1) (hi : rs[i]? = some (k, a)) {x : ByteArray × List Int × Bool} (hk : fs[k]? = some x) : Calls Try.prog 18 #[.pointer (some ⟨p, 0, none⟩), .int .i64 f] W fun e w' => e = .returned (.bool (a == x.2.1.length)) ∧ Stk w' B p cap used fs rs dir m ∧ Below W.heap.size W w' := by
  obtain ⟨s, g, h1, h2, h3, rfl, rfl, h6, h7, h8⟩ := h
  obtain ⟨b, c, hR, -, -⟩ := h1.rid hi hf
  obtain ⟨q, hq, -, e2, -⟩ := key_of hk
  rw [← e2]
  exact (eof_any h1 hR hq).mono fun e w' ⟨he, hr⟩ => ⟨he, ⟨s, g, h1.rest hr, h2, h3, rfl, rfl, h6, h7, by rw [hr.heap]; exact h8⟩, hr.below _⟩
theorem Stk.seek (h : Stk W B p cap used fs rs dir m) {f : Int} {i k a : Nat} (hf : f = (i : Int) + 1) (hi : rs[i]? = some (k, a)) {x : ByteArray × List Int × Bool} (hk : fs[k]? = some x) (n : Int) (n0 : 0 ≤ n) (n1 : n < 4294967296) : Calls Try.prog 21 #[.pointer (some ⟨p, 0, none⟩), .int .i64 f, .int .u32 n] W fun e w' => e = .returned (.tuple #[]) ∧ Stk w' B p cap used fs (rs.set i (k, seekN n x.2.1.length)) dir m ∧ Below B W w' := by
  obtain ⟨s, g, h1, h2, h3, rfl, rfl, h6, h7, h8⟩ := h
  obtain ⟨b, c, hR, -, -⟩ := h1.rid hi hf
  obtain ⟨q, hq, -, e2, -⟩ := key_of hk
  rw [← e2]
  exact (seek_any h1 hR hq n n0 n1).mono fun e w' ⟨he, hs, hb⟩ => ⟨he, ⟨_, g, hs, h2, h3, rfl, rfl, h6.same rfl rfl, h7, Nat.le_trans h8 hb.size⟩, hb⟩
theorem Stk.wword (h : Stk W B p cap used fs rs dir m) {f : Int} {i k a : Nat} (hf : f = (i : Int) + 1) (hi : rs[i]? = some (k, a)) {x : ByteArray × List Int × Bool} (hk : fs[k]? = some x) (hle : a ≤ x.2.1.length) (z : Int) (z0 : 0 ≤ z) (z1 : z ≤ 4294967295) (hroom : used + (a + 4 - x.2.1.length) ≤ cap) (hcap : a + 4 ≤ cap) : Calls Try.prog 14 #[.pointer (some ⟨p, 0, none⟩), .int .i64 f, .int .u32 z] W fun e w' => e = .returned (.int .i64 0) ∧ Stk w' B p cap (used + (a + 4 - x.2.1.length)) (fs.set k (x.1, wroteL x.2.1 a (byt z), x.2.2)) (rs.set i (k, a + 4)) dir m ∧ Below B W w' := by
  obtain ⟨s, g, h1, rfl, rfl, rfl, rfl, h6, h7, h8⟩ := h
  obtain ⟨b, c, hR, -, -⟩ := h1.rid hi hf
  obtain ⟨q, hq, e1, e2, e3⟩ := key_of hk
  rw [← e1, ← e2, ← e3]
  rw [← e2] at hle hroom
  exact (wword_any h1 h8 hR hq hle z z0 z1 hroom hcap).mono fun e w' ⟨he, v, g', hs, hb⟩ => ⟨he, ⟨_, g', hs, rfl, rfl, map_key_set, rfl, h6.setFile (s' := s.puts i (k, a) q v (byt z)) (q' := { q with val := v, xs := wroteL q.xs a (byt z) }) hq rfl rfl rfl, h7, Nat.le_trans h8 hb.size⟩, hb⟩
theorem Stk.write (h : Stk W B p cap used fs rs dir m) {f : Int} {i k a : Nat} (hf : f = (i : Int) + 1) (hi : rs[i]? = some (k, a)) {x : ByteArray × List Int × Bool} (hk : fs[k]? = some x) (hle : a ≤ x.2.1.length) (z : Int) (z0 : 0 ≤ z) (z1 : z ≤ 255) (hroom : used + (a + 1 - x.2.1.length) ≤ cap) (hcap : a + 1 ≤ cap) : Calls Try.prog 13 #[.pointer (some ⟨p, 0, none⟩), .int .i64 f, .int .u8 z] W fun e w' => e = .returned (.int .i64 0) ∧ Stk w' B p cap (used + (a + 1 - x.2.1.length)) (fs.set k (x.1, wrote x.2.1 a z, x.2.2)) (rs.set i (k, a + 1)) dir m ∧ Below B W w' := by
  obtain ⟨s, g, h1, rfl, rfl, rfl, rfl, h6, h7, h8⟩ := h
  obtain ⟨b, c, hR, -, -⟩ := h1.rid hi hf
  obtain ⟨q, hq, e1, e2, e3⟩ := key_of hk
  rw [← e1, ← e2, ← e3]
  rw [← e2] at hle hroom
  exact (bwrite_any h1 h8 hR hq hle z z0 z1 hroom hcap).mono fun e w' ⟨he, v, g', hs, hb⟩ => ⟨he, ⟨_, g', hs, rfl, rfl, map_key_set, rfl, h6.setFile (s' := s.puts i (k, a) q v [z]) (q' := { q with val := v, xs := wroteL q.xs a [z] }) hq rfl rfl rfl, h7, Nat.le_trans h8 hb.size⟩, hb⟩
theorem Stk.read (h : Stk W B p cap used fs rs dir m) {f : Int} {i k a : Nat} (hf : f = (i : Int) + 1) (hi : rs[i]? = some (k, a)) {x : ByteArray × List Int × Bool} (hk : fs[k]? = some x) (hlt : a < x.2.1.length) : Calls Try.prog 20 #[.pointer (some ⟨p, 0, none⟩), .int .i64 f] W fun e w' => e = .returned (.int .u8 (nth x.2.1 a)) ∧ Stk w' B p cap used fs (rs.set i (k, a + 1)) dir m ∧ Below B W w' := by
  obtain ⟨s, g, h1, h2, h3, rfl, rfl, h6, h7, h8⟩ := h
  obtain ⟨b, c, hR, -, -⟩ := h1.rid hi hf
  obtain ⟨q, hq, -, e2, -⟩ := key_of hk
  rw [← e2]
  rw [← e2] at hlt
  exact (read_any h1 hR hq hlt).mono fun e w' ⟨he, hs, hb⟩ => ⟨he, ⟨_, g, hs, h2, h3, rfl, rfl, h6.same rfl rfl, h7, Nat.le_trans h8 hb.size⟩, hb⟩
theorem Stk.read_no (h : Stk W B p cap used fs rs dir m) {f : Int} {i k a : Nat} (hf : f = (i : Int) + 1) (hi : rs[i]? = some (k, a)) {x : ByteArray × List Int × Bool} (hk : fs[k]? = some x) (he : a = x.2.1.length) : Calls Try.prog 20 #[.pointer (some ⟨p, 0, none⟩), .int .i64 f] W fun e w' => e = .returned (.int .u8 0) ∧ Stk w' B p cap used fs rs dir m ∧ Below W.heap.size W w' := by
  obtain ⟨s, g, h1, h2, h3, rfl, rfl, h6, h7, h8⟩ := h
  obtain ⟨b, c, hR, -, -⟩ := h1.rid hi hf
  obtain ⟨q, hq, -, e2, -⟩ := key_of hk
  exact (read_end h1 hR hq (by rw [e2]; exact he)).mono fun e w' ⟨he, hr⟩ => ⟨he, ⟨s, g, h1.rest hr, h2, h3, rfl, rfl, h6, h7, by rw [hr.heap]; exact h8⟩, hr.below _⟩
theorem Stk.rdword (h : Stk W B p cap used fs rs dir m) {f : Int} {i k a : Nat} (hf : f = (i : Int) + 1) (hi : rs[i]? = some (k, a)) {x : ByteArray × List Int × Bool} (hk : fs[k]? = some x) (hle : a + 4 ≤ x.2.1.length) : Calls Try.prog 22 #[.pointer (some ⟨p, 0, none⟩), .int .i64 f] W fun e w' => e = .returned (.int .u32 (leb x.2.1 a 4)) ∧ Stk w' B p cap used fs (rs.set i (k, a + 4)) dir m ∧ Below B W w' := by
  obtain ⟨s, g, h1, h2, h3, rfl, rfl, h6, h7, h8⟩ := h
  obtain ⟨b, c, hR, -, -⟩ := h1.rid hi hf
  obtain ⟨q, hq, -, e2, -⟩ := key_of hk
  rw [← e2]
  rw [← e2] at hle
  exact (rdword_any h1 hR hq hle).mono fun e w' ⟨he, hs, hb⟩ => ⟨he, ⟨_, g, hs, h2, h3, rfl, rfl, h6.same rfl rfl, h7, Nat.le_trans h8 hb.size⟩, hb⟩
theorem Stk.get (h : Stk W B p cap used fs rs dir m) {nm : ByteArray} (hs : nm.size ≤ maxLen) (hm : May W nm) {k : Nat} (hd : dir nm = some k) {f : ByteArray × List Int × Bool} (hk : fs[k]? = some f) : Calls Try.prog 15 #[.pointer (some ⟨p, 0, none⟩), .string nm] W fun e w' => ∃ v, e = .returned (.tuple #[v, .int .i64 0]) ∧ w'.ownsRow W.heap.size 5 1 v f.2.1.length (valsOf .u8 f.2.1) ∧ Below W.heap.size W w' := by
  obtain ⟨s, g, h1, rfl, rfl, rfl, rfl, h6, h7, h8⟩ := h
  obtain ⟨q, hq, e1, e2, e3, hdd⟩ := Stk.dirAt h6 hd hk
  rw [← e2]
  exact get_yes h1 h8 hs hm hq hdd
theorem Stk.get_no (h : Stk W B p cap used fs rs dir m) {nm : ByteArray} (hs : nm.size ≤ maxLen) (hm : May W nm) (hd : dir nm = none) : Calls Try.prog 15 #[.pointer (some ⟨p, 0, none⟩), .string nm] W fun e w' => e = .returned (.tuple #[.slice none 0 0, .int .i64 6]) ∧ w' = W := by
  obtain ⟨s, g, h1, rfl, rfl, rfl, rfl, h6, h7, h8⟩ := h
  exact Proofs.Ytbpelchampegaaa.get_no h1 hs hm (Stk.dirNo h6 hd)
theorem Stk.register (h : Stk W B p cap used fs rs dir m) {f : Int} {i k a : Nat} (hf : f = (i : Int) + 1) (hi : rs[i]? = some (k, a)) {x : ByteArray × List Int × Bool} (hk : fs[k]? = some x) {j : Nat} {y : ByteArray × List Int × Bool} (hj : fs[j]? = some y) (hne : j ≠ k) (hr : y.2.2 = true) (hd : dir x.1 = some j) (hmn : m < 1000) :
    Calls Try.prog 16 #[.pointer (some ⟨p, 0, none⟩), .int .i64 f] W fun e w' => e = .returned (.int .i64 0) ∧ Stk w' B p cap used fs rs (dirSet dir x.1 (some k)) (m + 1) ∧ Below B W w' := by
  obtain ⟨s, g, h1, rfl, rfl, rfl, rfl, h6, h7, h8⟩ := h
  obtain ⟨b, c, hR, -, -⟩ := h1.rid hi hf
  obtain ⟨q, hq, e1, e2, e3⟩ := key_of hk
  obtain ⟨q1, hq1, d1, d2, d3, hdd⟩ := Stk.dirAt h6 hd hj
  rw [← e1] at hdd ⊢
  refine (register_over h1 h8 hR hq hq1 hne (by rw [d3]; exact hr) hdd (by omega)).mono fun e w' ⟨he, hs, hb⟩ => ⟨he, ⟨_, g, hs, rfl, rfl, rfl, rfl, ?_, by show s.mn + 1 ≤ m + 1; omega, Nat.le_trans h8 hb.size⟩, hb⟩
  have h9 : Dir (s.out q.nm) (dirSet dir q.nm none) := h6.out rfl rfl
  have := h9.put (s' := { s with D := (s.D.del (.string q.nm.data.toList)).put (.string q.nm.data.toList) (.held (.pointer (some ⟨q.blk, 0, none⟩))), mn := s.mn + 1 }) (nm := q.nm) (k := k) (q := q) (h1.hm.isMap.del _) (fun j f hf => hf) hq rfl
  rw [dirSet_twice] at this
  exact this
theorem Stk.delete (h : Stk W B p cap used fs rs dir m) {nm : ByteArray} (hs : nm.size ≤ maxLen) {k : Nat} (hd : dir nm = some k) {f : ByteArray × List Int × Bool} (hk : fs[k]? = some f) (hr : f.2.2 = true) : Calls Try.prog 19 #[.pointer (some ⟨p, 0, none⟩), .string nm] W fun e w' => e = .returned (.tuple #[]) ∧ Stk w' B p cap used fs rs (dirSet dir nm none) m ∧ Below B W w' := by
  obtain ⟨s, g, h1, rfl, rfl, rfl, rfl, h6, h7, h8⟩ := h
  obtain ⟨q, hq, e1, e2, e3, hdd⟩ := Stk.dirAt h6 hd hk
  exact (delete_rid h1 hs hq (by rw [e3]; exact hr) hdd).mono fun e w' ⟨he, hs, hb⟩ => ⟨he, ⟨_, g, hs, rfl, rfl, rfl, rfl, h6.out rfl rfl, h7, Nat.le_trans h8 hb.size⟩, hb⟩
end
end Go.Proofs.Ytbpelchampegaaa
