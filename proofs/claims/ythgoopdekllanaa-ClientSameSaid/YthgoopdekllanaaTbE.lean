/- A row set: package table's, the document's. -/
import Derived.Test.YthgoopdekllanaaTbD
namespace Go.Proofs.Ythgoopdekllanaa
open Go.RowKit Go.Shelf
open SumM

attribute [local go_sem] Oper.semAt_some build_tab guard_undef
attribute [local go_sem ↓] zero_tab
attribute [local go_sem ↓] nm_ldT nm_ldA nm_stT

/-- May the row be set? -/
def setOk (T : Nat → Int) (b : Int) (u : Ent) : Bool := rgT T && rgE u && decide (0 ≤ b) && decide (b < 16) && !(T 0 == 1099511627776) && decide ((rowT T b.toNat).2.2.1 < u.2.2.1)
/-- The table with the row set; nothing, where it may not be. -/
def setV (T : Nat → Int) (b : Int) (u : Ent) : Nat → Int := if setOk T b u = true then upd (setR T b.toNat u) 0 (T 0 + 1) else zeroT
def setN (T : Nat → Int) (b : Int) (u : Ent) : Int := if setOk T b u = true then 0 else 2
theorem rwT_yes {T : Nat → Int} {b : Int} (h : 0 ≤ b ∧ b < 16) : rwT T b = (rowT T b.toNat, true) := if_pos h
theorem rwT_no {T : Nat → Int} {b : Int} (h : ¬ (0 ≤ b ∧ b < 16)) : rwT T b = (ent0, false) := if_neg h

end Go.Proofs.Ythgoopdekllanaa
