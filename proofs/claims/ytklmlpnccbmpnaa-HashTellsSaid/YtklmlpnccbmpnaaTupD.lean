/- The document's own answers on tuples: All (slices of tuples). -/
import Derived.Test.YtklmlpnccbmpnaaTupC
namespace Go.Proofs.Ytklmlpnccbmpnaa
open Go.RowKit Go.Shelf
open SumM

/-- A tuple, as numbers. -/
abbrev Tup := Int × Int × Int × Int
def Tup.ok (u : Tup) : Prop := UNums u.1 u.2.1 u.2.2.1 u.2.2.2
abbrev tup0 : Tup := (0, 0, 0, 0)
/-- A slice of tuples reads so, in memory below B. -/
def TRow (B : Nat) (w : World) (a : Option Addr) (us : List Tup) : Prop :=
  (∀ u ∈ us, Tup.ok u) ∧
  (0 < us.length → ∃ b off, a = some ⟨b, off, none⟩ ∧ b < B ∧ ∀ j, j < us.length →
    w.cell? ⟨b, off + j * 4, none⟩ = some (.int .u32 (us[j]?.getD tup0).1) ∧ w.cell? ⟨b, off + j * 4 + 1, none⟩ = some (.int .u32 (us[j]?.getD tup0).2.1) ∧
    w.cell? ⟨b, off + j * 4 + 2, none⟩ = some (.int .u16 (us[j]?.getD tup0).2.2.1) ∧ w.cell? ⟨b, off + j * 4 + 3, none⟩ = some (.int .u16 (us[j]?.getD tup0).2.2.2))
theorem TRow.below {B : Nat} {w w' : World} {a : Option Addr} {us : List Tup} (h : TRow B w a us) (hb : Below B w w') : TRow B w' a us :=
  ⟨h.1, fun hl => by
    obtain ⟨b, off, e, hB, hc⟩ := h.2 hl
    exact ⟨b, off, e, hB, fun j hj => ⟨(hb.cell hB).trans (hc j hj).1, (hb.cell hB).trans (hc j hj).2.1, (hb.cell hB).trans (hc j hj).2.2.1, (hb.cell hB).trans (hc j hj).2.2.2⟩⟩⟩

end Go.Proofs.Ytklmlpnccbmpnaa
