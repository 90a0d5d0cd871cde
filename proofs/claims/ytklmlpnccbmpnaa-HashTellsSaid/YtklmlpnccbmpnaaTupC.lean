/- The document's own answers on tuples: Cmp, Less. -/
import Derived.Test.YtklmlpnccbmpnaaTupB
namespace Go.Proofs.Ytklmlpnccbmpnaa
open Go.RowKit Go.Shelf
open SumM

theorem below_drn {B : Nat} {a w : World} (h : Below B a w) (n : Nat) : Below B a (w.drewN n) := ⟨h.os, h.tape, h.output, h.size, h.block⟩
/-- The order of lists of numbers, of one length. -/
def cmpL : List Int → List Int → Int
  | x :: r, y :: t => if x < y then -1 else if y < x then 1 else cmpL r t
  | _, _ => 0
theorem cmpL_in (a b : List Int) : cmpL a b = -1 ∨ cmpL a b = 0 ∨ cmpL a b = 1 := by
  induction a generalizing b with
  | nil => simp [cmpL]
  | cons x r ih =>
    cases b with
    | nil => simp [cmpL]
    | cons y t =>
      simp only [cmpL]
      split
      · simp
      split
      · simp
      · exact ih t
/-- Where the first k are the same the order is that of the rest. -/
theorem cmpL_drop (a b : List Int) (k : Nat) (hl : a.length = b.length) (h : ∀ j, j < k → a[j]?.getD 0 = b[j]?.getD 0) : cmpL a b = cmpL (a.drop k) (b.drop k) := by
  induction k generalizing a b with
  | zero => rfl
  | succ k ih =>
    cases a with
    | nil =>
      cases b with
      | nil => rfl
      | cons y t => simp at hl
    | cons x r =>
      cases b with
      | nil => simp at hl
      | cons y t =>
        have h0 : x = y := by simpa using h 0 (by omega)
        subst h0
        simp only [cmpL, List.drop_succ_cons]
        rw [if_neg (by omega), if_neg (by omega)]
        exact ih r t (by simpa using hl) (fun j hj => by simpa using h (j + 1) (by omega))
theorem cmpL_at (a b : List Int) (k : Nat) (ha : k < a.length) (hl : a.length = b.length) (h : ∀ j, j < k → a[j]?.getD 0 = b[j]?.getD 0) :
    (a[k]?.getD 0 < b[k]?.getD 0 → cmpL a b = -1) ∧ (b[k]?.getD 0 < a[k]?.getD 0 → cmpL a b = 1) := by
  have e := cmpL_drop a b k hl h
  have ea : a.drop k = a[k]?.getD 0 :: a.drop (k + 1) := by
    rw [List.getElem?_eq_getElem ha]
    exact List.drop_eq_getElem_cons ha
  have hb : k < b.length := by omega
  have eb : b.drop k = b[k]?.getD 0 :: b.drop (k + 1) := by
    rw [List.getElem?_eq_getElem hb]
    exact List.drop_eq_getElem_cons hb
  rw [e, ea, eb]
  refine ⟨fun hx => ?_, fun hx => ?_⟩
  · simp only [cmpL]
    rw [if_pos hx]
  · simp only [cmpL]
    rw [if_neg (by omega), if_pos hx]
theorem cmpL_same (a b : List Int) (hl : a.length = b.length) (h : ∀ j, j < a.length → a[j]?.getD 0 = b[j]?.getD 0) : cmpL a b = 0 := by
  rw [cmpL_drop a b a.length hl h]
  simp [cmpL]
/-- The order of two tuples. -/
def cmpU (ts td tp tq : Int) (ts' td' tp' tq' : Int) : Int := cmpL (tupB ts td tp tq) (tupB ts' td' tp' tq')

end Go.Proofs.Ytklmlpnccbmpnaa
