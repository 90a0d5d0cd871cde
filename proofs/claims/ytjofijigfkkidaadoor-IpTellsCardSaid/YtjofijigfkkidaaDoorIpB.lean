/- Rows of bytes of the call's own whose contents do not matter. -/
import Derived.Test.YtjofijigfkkidaaDoorIpW
import Derived.Test.YtjofijigfkkidaaDoorIpO
import Derived.Test.YtjofijigfkkidaaDoorIpG
import Derived.Test.YtjofijigfkkidaaDoorIpL
namespace Go.Proofs.YtjofijigfkkidaaDoor
open Go.RowKit
open SumM

/-- The slice v holds n bytes of the call's own. -/
def Bytes (W : World) (base : Nat) (v : Value) (n : Nat) : Prop := ∃ zs : List Int, zs.length = n ∧ In 255 zs ∧ W.ownsRow base 5 1 v n (zs.map (Value.int .u8))
theorem Bytes.of {W : World} {base : Nat} {v : Value} {n : Nat} {zs : List Int} (h : W.ownsRow base 5 1 v n (zs.map (Value.int .u8))) (hin : In 255 zs) : Bytes W base v n := ⟨zs, by have := h.1; simpa using this, hin, h⟩
theorem Bytes.below {W W' : World} {base : Nat} {v : Value} {n : Nat} (h : Bytes W base v n) (m : Below W.heap.size W W') : Bytes W' base v n := by
  obtain ⟨zs, h1, h2, h3⟩ := h
  exact ⟨zs, h1, h2, own_below h3 m⟩
/-- A byte stored anywhere. -/
theorem Bytes.store {W : World} {base : Nat} {v : Value} {n : Nat} (h : Bytes W base v n) (g j : Nat) (x : Int) (hx : 0 ≤ x ∧ x ≤ 255) : Bytes (W.setCell ⟨g, j, none⟩ (.int .u8 x)) base v n := by
  obtain ⟨zs, h1, h2, h3⟩ := h
  rcases h3.2 with ⟨rfl, rfl⟩ | ⟨g', cap, cur, rfl, hb, hg, hn, hc, hs, ht⟩
  · obtain rfl : zs = [] := List.eq_nil_of_length_eq_zero h1
    exact ⟨[], rfl, h2, World.ownsRow_nil _ _ _ _⟩
  · by_cases e : g' = g
    · subst e
      exact ⟨zs.set j x, by simpa using h1, in_set h2 _ _ hx, own_store h3 j x⟩
    · exact ⟨zs, h1, h2, h3.1, .inr ⟨g', cap, cur, rfl, hb, (Below.heap_setCell W ⟨g, j, none⟩ _ g' e).trans hg, hn, hc, hs, ht⟩⟩
/-- A box of another type, behind a byte that was stored in a row. -/
theorem box_store {W : World} {base : Nat} {g n c b : Nat} {xs : List Value} {cur : Array Value} {t : TypeId} {fr : Nat × Nat} (h : W.ownsRow base 5 1 (.slice (some ⟨g, 0, none⟩) n c) n xs) (hb : W.heap[b]? = some (.cells cur t fr)) (ht : t ≠ 5) (j : Nat) (x : Value) : (W.setCell ⟨g, j, none⟩ x).heap[b]? = some (.cells cur t fr) := by
  refine (Below.heap_setCell W ⟨g, j, none⟩ x b ?_).trans hb
  rintro rfl
  rcases h.2 with ⟨h1, _⟩ | ⟨g', cap, cur', h1, _, hg, _⟩
  · cases h1
  · injection h1 with h1
    injection h1 with h1
    injection h1 with h1
    subst h1
    rw [show W.heap[b]? = _ from hb] at hg
    injection hg with hg
    injection hg with _ e _
    exact ht e
theorem xor_in (x y : Int) (hx : 0 ≤ x ∧ x ≤ 255) (hy : 0 ≤ y ∧ y ≤ 255) : 0 ≤ bits .xor .u8 x y ∧ bits .xor .u8 x y ≤ 255 := by
  have hl : x.toNat ^^^ y.toNat < 256 := Nat.xor_lt_two_pow (n := 8) (by omega) (by omega)
  rw [u8_xor x y hx.1 (by omega) hy.1 (by omega)]
  omega
end Go.Proofs.YtjofijigfkkidaaDoor
