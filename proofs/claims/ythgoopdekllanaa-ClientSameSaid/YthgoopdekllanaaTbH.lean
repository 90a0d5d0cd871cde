/- Whose buckets these are: package table's, the document's. -/
import Derived.Test.YthgoopdekllanaaTbD
import Derived.Test.YthgoopdekllanaaRangeOkD
import Derived.Sort.CutIn
namespace Go.Proofs.Ythgoopdekllanaa
open Go.RowKit Go.Shelf
open SumM

attribute [local go_sem] Oper.semAt_some build_tab guard_undef
attribute [local go_sem ↓] zero_tab
attribute [local go_sem ↓] nm_ldT nm_ldA nm_stT

/-- Those of some buckets of which p holds. -/
def selI (p : Nat → Bool) (l : List Nat) : List Int := (l.filter p).map fun i : Nat => (i : Int)
theorem selI_len (p : Nat → Bool) (k : Nat) : (selI p (List.range k)).length ≤ k := by
  unfold selI
  rw [List.length_map]
  exact Nat.le_trans (List.length_filter_le _ _) (by simp)
theorem selI_yes {p : Nat → Bool} {k : Nat} (h : p k = true) : selI p (List.range (k + 1)) = selI p (List.range k) ++ [(k : Int)] := by
  simp [selI, List.range_succ, List.filter_append, h]
theorem selI_no {p : Nat → Bool} {k : Nat} (h : p k = false) : selI p (List.range (k + 1)) = selI p (List.range k) := by
  simp [selI, List.range_succ, List.filter_append, h]
theorem selI_wf (p : Nat → Bool) : ∀ n ∈ selI p (List.range 16), (Lit.int .i64 n).wf = true := by
  intro n hn
  simp only [selI, List.mem_map, List.mem_filter, List.mem_range] at hn
  obtain ⟨i, ⟨hi, _⟩, rfl⟩ := hn
  exact wf_i64.2 ⟨by omega, by omega⟩
theorem selI_congr {p q : Nat → Bool} {k : Nat} (h : ∀ i, i < k → p i = q i) : selI p (List.range k) = selI q (List.range k) := by
  unfold selI
  rw [List.filter_congr fun i hi => h i (List.mem_range.1 hi)]
/-- The buckets that are b's. -/
def ofP (T : Nat → Int) (b : Int) (i : Nat) : Bool := (rowT T i).1 == b

/-- While the rows come: what was chosen, in the box at n0. -/
def SelI (p : Nat → Bool) (w : World) (pre : List Nat) (W : World) : Prop := (∃ v', Boxed W w.heap.size 107 v' ∧ W.ownsRow w.heap.size 3 1 v' (selI p pre).length ((selI p pre).map (Value.int .i64)) ∧ True) ∧ Below w.heap.size w W
theorem selI_abide (p : Nat → Bool) (w : World) (B : Nat) (hB : w.heap.size + 1 ≤ B) : Abide3 B (SelI p w) :=
  Abide3.of_own (OwnFrom.and (Own.from (holdsRow_own w.heap.size w.heap.size 107 3 1 (fun pre : List Nat => (selI p pre).length) (fun pre => (selI p pre).map (Value.int .i64)) (fun _ _ => True)) _) (ownFrom_below (Nat.le_refl _) (by omega)))
theorem selI_drew (p : Nat → Bool) (w : World) (pre : List Nat) (W : World) (h : SelI p w pre W) : SelI p w pre W.drew := by
  obtain ⟨⟨v', hv, hr, ht⟩, hb⟩ := h
  exact ⟨⟨v', hv, hr.drew, ht⟩, hb.drew⟩
theorem rows_okD (n : Nat) (hn : 1 ≤ n) (B : Nat) (T : Nat → Int) (w : World) (hb : NB B 26 65 T w) :
    SeqOkD Fence.wide n Try.prog 79 #[.pointer (some ⟨B, 0, none⟩)] (encR T) (fun pre x _ => RowOk pre x) (fun _ _ => True) (fun xs => xs = List.range 16) (fun _ => True) w :=
  fun l J Jx W m hN _ hY h0 => rowIter_in n hn B T l J Jx W (nb_below hb m) hN hY h0
theorem selI_end (p : Nat → Bool) (i : Nat) : selI p (List.range i ++ [i]) = selI p (List.range (i + 1)) := by rw [List.range_succ]

end Go.Proofs.Ythgoopdekllanaa
