/- The document's look at two lists of numbers; what many ways hand on to. -/
import Derived.Test.YthgoopdekllanaaTbA
namespace Go.Proofs.Ythgoopdekllanaa
open Go.RowKit Go.Shelf
open SumM

theorem lit3 (w : World) : Row .i64 (w.alloc (.cells #[.int .i64 3] 3)).heap.size (w.alloc (.cells #[.int .i64 3] 3)) (some ⟨w.heap.size, 0, none⟩) [3] := by
  have := Row.built .i64 w 3 [3] (fun n hn => by rw [List.mem_singleton.1 hn]; exact wf_i64.2 ⟨by omega, by omega⟩)
  rw [World.size_alloc]
  exact this

/-- A table's box, made and filled. -/
theorem boxT_new (w1 : World) (S : Nat → Int) : NB w1.heap.size 26 65 S ((w1.alloc (.cells (numL 65 zeroT).toArray 26)).setCells w1.heap.size 0 (numL 65 (S))) ∧ Below w1.heap.size w1 ((w1.alloc (.cells (numL 65 zeroT).toArray 26)).setCells w1.heap.size 0 (numL 65 (S))) :=
  ⟨nb_full (show NB w1.heap.size 26 65 zeroT (w1.alloc (.cells (numL 65 zeroT).toArray 26)) from heap_alloc_new w1 _) S, below_setCells w1.heap.size (Nat.le_refl _) (numL 65 S) 0 w1 _ ((Below.refl _ w1).alloc (Nat.le_refl _) _)⟩

theorem st_new (w1 : World) (S : Nat → Int) : (stS 26 (.pointer (some ⟨w1.heap.size, 0, none⟩)) (tabV S)).run Try.prog (w1.alloc (.cells (numL 65 zeroT).toArray 26)) = .ok () ((w1.alloc (.cells (numL 65 zeroT).toArray 26)).setCells w1.heap.size 0 (numL 65 (S))) :=
  st_tab (show NB w1.heap.size 26 65 zeroT (w1.alloc (.cells (numL 65 zeroT).toArray 26)) from heap_alloc_new w1 _) S

/-- What many ways hand on to is shown once. -/
theorem shareT {T G : Prop} (a : Hid T → G) (b : T) : G := a (Lib.hid b)
end Go.Proofs.Ythgoopdekllanaa
