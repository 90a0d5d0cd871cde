/- What the body of a loop over an iterator must keep, where the iterator reads boxes of its own in every round. Nothing of the program is imported. -/
import Derived.RangeFuncNested
import Derived.RangeFuncBound
import Derived.RangeFuncCalls
import Derived.RangeFuncLeaves
import Derived.RangeFuncBox
import Derived.Shelf.Abstract
import Derived.Shelf.RegionOpen
import Derived.WalkKit
import Derived.OwnWalkIn
import Derived.TacticsInMore
import Derived.LoopNIn
import Derived.LoopIn
import Derived.Maps.AppendAt
import Derived.Outline
import Derived.Test.YtpbheonapgckfaaDoorBase
namespace Go.Proofs.YtpbheonapgckfaaDoor
open Go.RowKit Go.Shelf

/-- What lay below n lies as it lay; and of the boxes bx, those that are cells too. -/
def Keep (n : Nat) (bx : List Nat) (W W' : World) : Prop := Below n W W' ∧ ∀ b ∈ bx, ∀ o : Obj, W.heap[b]? = some o → o.isCells = true → W'.heap[b]? = some o

theorem Keep.refl (n : Nat) (bx : List Nat) (W : World) : Keep n bx W W := ⟨Below.refl _ _, fun _ _ _ h _ => h⟩
theorem keep_t {n : Nat} {bx : List Nat} {A B C : World} (h : Keep n bx A B) (k : Keep n bx B C) : Keep n bx A C :=
  ⟨h.1.trans k.1, fun b hb o ho hc => k.2 b hb o (h.2 b hb o ho hc) hc⟩
theorem keep_b {n : Nat} {bx : List Nat} {w : World} (hn : n ≤ w.heap.size) (W : World) (l : Nat) (o o' : Obj) (hl : w.heap.size ≤ l) (h : W.heap[l]? = some o) (h1 : o.isCells = false) (h2 : o.isWalk = false) : Keep n bx W (W.putObj l o') :=
  ⟨belowK_b hn W l o o' hl h h1 h2, fun b _ x hx hc => by
    have hne : b ≠ l := by
      rintro rfl
      rw [h] at hx
      injection hx with hx
      subst hx
      rw [h1] at hc
      cases hc
    exact (World.putObj_heap_other (fun e => hne (by rw [e]))).trans hx⟩
theorem Keep.boxed {n : Nat} {bx : List Nat} {W W' : World} (h : Keep n bx W W') {b : Nat} (hb : b ∈ bx) {t : TypeId} {v : Value} (hv : Boxed W b t v) : Boxed W' b t v := h.2 b hb _ hv rfl
theorem Keep.setCell {n : Nat} {bx : List Nat} (W : World) {p : Addr} (hp : n ≤ p.block) (hb : p.block ∉ bx) (u : Value) : Keep n bx W (W.setCell p u) :=
  ⟨(Below.refl n W).setCell hp u, fun b hbx o ho _ => (Below.heap_setCell W p u b (fun e => hb (by rw [← e]; exact hbx))).trans ho⟩
/-- A list of numbers f 0, .., f (k - 1). -/
def uptoA {α : Type} (f : Nat → α) (k : Nat) : List α := (List.range k).map f
theorem uptoA_succ {α : Type} (f : Nat → α) (k : Nat) : uptoA f (k + 1) = uptoA f k ++ [f k] := by simp [uptoA, List.range_succ]
theorem uptoA_length {α : Type} (f : Nat → α) (k : Nat) : (uptoA f k).length = k := by simp [uptoA]

/-- Behind an append of one element to a row of the call's own. -/
theorem below_append {B n : Nat} {w wr w1 : World} {v : Value} {o : Obj} {e : TypeId} {xs : List Value} (hnx : Below B w wr) (hB : B ≤ wr.heap.size) (hown : wr.ownsRow B e 1 v n xs) (hgrow : (wr.alloc o).grownBy w1 v.ownBlock) : Below B w w1 :=
  (hnx.alloc hB o).grown hgrow (by simp; omega) (fun j hj => (hown.lt j hj).1)

/-- The call hands back a slice of integers in memory of its own that reads as zs; what lay lies as it lay. -/
def RowRet (k : IntKind) (zs : List Int) (w : World) (e : Ending) (w' : World) : Prop :=
  ∃ a c, e = .returned (.slice a zs.length c) ∧ Row k w'.heap.size w' a zs ∧ Below w.heap.size w w'
end Go.Proofs.YtpbheonapgckfaaDoor
