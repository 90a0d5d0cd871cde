/- A new table: package table's, the document's. -/
import Derived.Test.YtiaikacfdbcmmaaTbC
namespace Go.Proofs.Ytiaikacfdbcmmaa
open Go.RowKit Go.Shelf
open SumM

attribute [local go_sem] Oper.semAt_some
attribute [local go_sem ↓] nm_ldT nm_ldA nm_stT
attribute [local go_sem] zero_tab

/-- A new table's numbers. -/
def newT : Nat → Int := fun o => if o = 0 then 0 else if (o - 1) % 4 < 2 then -1 else 0

/-- The rows below k made. -/
def mkT (k : Nat) : Nat → Int := fun o => if o < 1 + k * 4 then newT o else 0
theorem mkT_zero : ∀ o, o < 65 → zeroT o = mkT 0 o := by
  intro o _
  unfold mkT zeroT newT
  by_cases h : o = 0
  · simp [h]
  · rw [if_neg (by omega)]
theorem mkT_full : ∀ o, o < 65 → mkT 16 o = newT o := by
  intro o ho
  unfold mkT
  rw [if_pos (by omega)]
theorem mkT_step (k : Nat) (o : Nat) : setR (mkT k) k (-1, -1, 0, 0) o = mkT (k + 1) o := by
  unfold setR upd mkT newT
  by_cases h3 : o = 1 + k * 4 + 3
  · subst h3
    rw [if_pos rfl, if_pos (by omega), if_neg (by omega), if_neg (by omega)]
  rw [if_neg h3]
  by_cases h2 : o = 1 + k * 4 + 2
  · subst h2
    rw [if_pos rfl, if_pos (by omega), if_neg (by omega), if_neg (by omega)]
  rw [if_neg h2]
  by_cases h1 : o = 1 + k * 4 + 1
  · subst h1
    rw [if_pos rfl, if_pos (by omega), if_neg (by omega), if_pos (by omega)]
  rw [if_neg h1]
  by_cases h0 : o = 1 + k * 4
  · subst h0
    rw [if_pos rfl, if_pos (by omega), if_neg (by omega), if_pos (by omega)]
  rw [if_neg h0]
  by_cases hl : o < 1 + k * 4
  · have hl2 : o < 1 + (k + 1) * 4 := by omega
    simp only [if_pos hl, if_pos hl2]
  · have hl2 : ¬ o < 1 + (k + 1) * 4 := by omega
    simp only [if_neg hl, if_neg hl2]

/-- While the rows are made. -/
structure NwI (w : World) (pre : List Nat) (W : World) : Prop where
  lo : Below w.heap.size w W
  tb : NB (w.heap.size + 1) 26 65 (mkT pre.length) W
  ret : NB w.heap.size 26 65 zeroT W
theorem nwI_abide (w : World) (B : Nat) (hB : w.heap.size + 2 ≤ B) : Abide3 B (NwI w) where
  new := fun _ _ o h => ⟨h.lo.alloc h.lo.size o, (Below.heap_alloc _ _ _ (nb_lt h.tb)).trans h.tb, (Below.heap_alloc _ _ _ (nb_lt h.ret)).trans h.ret⟩
  turn := fun _ _ _ _ o' h hl ho hc => ⟨h.lo.trans ⟨rfl, rfl, rfl, by simp [World.putObj], fun k hk => World.putObj_heap_other (by omega)⟩, (World.putObj_heap_other (by omega)).trans h.tb, (World.putObj_heap_other (by omega)).trans h.ret⟩

end Go.Proofs.Ytiaikacfdbcmmaa
