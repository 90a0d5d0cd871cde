/- The document's own answers on tuples: Sorted. -/
import Derived.Test.YtklmlpnccbmpnaaTupE
namespace Go.Proofs.Ytklmlpnccbmpnaa
open Go.RowKit Go.Shelf
open SumM

theorem trow_new (w : World) (t : TypeId) (u : Tup) (h : Tup.ok u) : TRow (w.heap.size + 1) (w.alloc (.cells #[.int .u32 u.1, .int .u32 u.2.1, .int .u16 u.2.2.1, .int .u16 u.2.2.2] t)) (some ⟨w.heap.size, 0, none⟩) [u] := by
  refine ⟨by simpa using h, fun _ => ⟨w.heap.size, 0, rfl, by omega, fun j hj => ?_⟩⟩
  obtain rfl : j = 0 := by simpa using hj
  refine ⟨?_, ?_, ?_, ?_⟩ <;> (rw [cell_of_row _ _ _ _ _ _ (heap_alloc_new w _)]; rfl)

theorem kOf_pos (u : Tup) (us : List Tup) (m : Nat) (hm : 0 < m) : kOf u us m = if cmpT u (us[m - 1]?.getD tup0) < 0 then kOf u us (m - 1) else m := by
  obtain ⟨k, rfl⟩ : ∃ k, m = k + 1 := ⟨m - 1, by omega⟩
  rfl
theorem trow_at {B : Nat} {w : World} {g : Nat} {us : List Tup} (h : TRow B w (some ⟨g, 0, none⟩) us) (j : Nat) (hj : j < us.length) :
    w.cell? ⟨g, j * 4, none⟩ = some (.int .u32 (us[j]?.getD tup0).1) ∧ w.cell? ⟨g, j * 4 + 1, none⟩ = some (.int .u32 (us[j]?.getD tup0).2.1) ∧
    w.cell? ⟨g, j * 4 + 2, none⟩ = some (.int .u16 (us[j]?.getD tup0).2.2.1) ∧ w.cell? ⟨g, j * 4 + 3, none⟩ = some (.int .u16 (us[j]?.getD tup0).2.2.2) := by
  obtain ⟨b, off, e, _, hc⟩ := h.2 (by omega)
  injection e with e
  injection e with e1 e2
  subst e1 e2
  simpa using hc j hj

theorem trow_drop0 {B : Nat} {w : World} {g : Nat} {us : List Tup} (h : TRow B w (some ⟨g, 0, none⟩) us) (i : Nat) : TRow B w (some ⟨g, i * 4, none⟩) (us.drop i) := by
  have := h.drop i
  rwa [Nat.zero_add] at this

end Go.Proofs.Ytklmlpnccbmpnaa
