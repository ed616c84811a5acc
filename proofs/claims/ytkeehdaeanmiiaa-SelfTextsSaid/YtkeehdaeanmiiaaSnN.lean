/-
  A scanner in memory: a number is read.
-/
import Derived.Test.YtkeehdaeanmiiaaSnG
import Derived.Test.YtkeehdaeanmiiaaSnK2
namespace Go.Proofs.Ytkeehdaeanmiiaa
open Go.ChangeShapes Go.WideShapes Go.ChangeAt Go.RowKit
open Ev (WRow)
set_option linter.unusedVariables false
set_option linter.unusedSimpArgs false
/-- a number that begins where the scanner stands -/
def numF (s : Sn) : Sn :=
  let k := tw nuB (s.src.drop s.at_)
  let t := (s.src.drop s.at_).take k
  let e := nth s.src (s.at_ + k)
  let sym : Int := if e = 88 then 27 else 26
  let at_ := if e = 72 ∨ e = 88 then s.at_ + k + 1 else s.at_ + k
  let v : Option Int := if e = 72 then hexF t else if e = 88 then (hexF t).bind (fun v => if v ≤ 255 then some v else none) else decF t
  let s1 : Sn := { s with sym := sym, at_ := at_ }
  match v with
  | none => markF s1 2 s1.pos
  | some v => { s1 with val := wrap32 v }
/-- what comes of it -/
def numV (s1 : Sn) (v : Option Int) : Sn := match v with
  | none => markF s1 2 s1.pos
  | some v => { s1 with val := wrap32 v }
theorem hexF_bd {t : List Int} (ht : NuL t) {v : Int} (h : hexF t = some v) : 0 ≤ v ∧ v ≤ 4294967295 := by
  unfold hexF at h
  split at h
  · cases h
  · rename_i h8
    obtain rfl := Option.some.inj h
    exact (hexTx_val (fun c hc => ht c (noz_sub t c hc)) (by omega)).2
section
variable {w : World} {B : Nat} {q : Sp} {s : Sn}
theorem SnAt.subrd (h : SnAt w B q s) {A : Option Addr} {n c : Nat} (hv : q.sv = .slice A n c) (lo k : Nat) (h2 : lo + k ≤ s.src.length) {A2 : Option Addr} (hA : (if c = lo then A else A.map (·.add lo)) = A2) : Rd w w.heap.size .u8 A2 k ((s.src.drop lo).take k) := by
  obtain ⟨e, hc⟩ := cap_ge h hv
  have hr := Rd.sub (h.rd hv) (lo := lo) (hi := lo + k) (c := c) (by omega) (by omega) hc
  rw [hA, show lo + k - lo = k by omega] at hr
  exact hr
end
end Go.Proofs.Ytkeehdaeanmiiaa
