/- As XTupQ, without the listed tables: for a seat that reaches none of the tuple's texts. -/
import Derived.Test.YtklmlpnccbmpnaaTupMath
import Derived.Test.YtklmlpnccbmpnaaCore
import Derived.Deep.Slices
import Derived.Stop.LaidErr
import Derived.Lib.LaidTab
namespace Go.Proofs.Ytklmlpnccbmpnaa
open Go.RowKit Go.Joins Go.ChangeShapes Go.WideShapes Go.ChangeAt Go.Deep
open SumM

/-- Tuples that came in. -/
structure IsTRow (w : World) (a : Option Addr) (len cap : Nat) (us : List Tup) : Prop where
  row : TRow w.heap.size w a us
  hl : us.length = len
  hn : a = none → cap = 0
  hc : len ≤ cap ∧ cap ≤ maxLen

section
variable {H : Type} {enc : TypeId × Value → H} {w : World} {base : Nat} {spare : Nat → Bool} {held : Bool}
set_option maxRecDepth 100000 in
theorem open_tuples {r : Reach} {b0 : Nat} {v : Value} {d : DataW H} {p : List MemPlace} (hsp : ∀ b, spare b = true) (hv : Value.okWide Try.prog w r b0 27 v) (h : DataW.Trod enc Try.prog w base spare held 27 v d p) :
    ∃ (a : Option Addr) (len cap : Nat) (us : List Tup), v = .slice a len cap ∧ IsTRow w a len cap us := by
  obtain ⟨a, len, cap, rfl⟩ := okWide_slice Try.underlying27 hv
  obtain ⟨fuel, hf⟩ := h
  have hC : Try.prog.cellsOf 26 = 4 := by kernel_rfl
  rcases open_slice Try.underlying27 hf with ⟨hcs, _⟩ | ⟨ad, l, c, m, n, D, Pl, hcs, hb, hl, hm, hmm, hx, hi⟩
  · simp [Value.cells] at hcs
    obtain ⟨rfl, rfl, rfl⟩ := hcs
    exact ⟨none, 0, 0, [], rfl, ⟨TRow.nil _ _ _, rfl, fun _ => rfl, Nat.le_refl _, Nat.zero_le _⟩⟩
  · simp [Value.cells] at hcs
    obtain ⟨rfl, rfl, rfl⟩ := hcs
    have hml : len ≤ m := by rw [hmm, if_pos (hsp _)]; exact hl
    have K : ∀ i, i < len → ∃ u : Tup, u.ok ∧ w.cell? (ad.add (i * 4)) = some (.int .u32 u.1) ∧ w.cell? (ad.add (i * 4 + 1)) = some (.int .u32 u.2.1) ∧ w.cell? (ad.add (i * 4 + 2)) = some (.int .u16 u.2.2.1) ∧ w.cell? (ad.add (i * 4 + 3)) = some (.int .u16 u.2.2.2) := by
      intro i hil
      obtain ⟨cs', hc, ht'⟩ := hi i (by omega)
      rw [hC] at hc
      obtain ⟨_, hcl, hat⟩ := World.cells?_some hc
      obtain ⟨ts, td, tp, tq, rfl, hu⟩ := tup_of_trod hcl ht'
      have q0 := hat 0 (by decide)
      have q1 := hat 1 (by decide)
      have q2 := hat 2 (by decide)
      have q3 := hat 3 (by decide)
      rw [Go.Deep.add_add] at q0 q1 q2 q3
      exact ⟨(ts, td, tp, tq), hu, q0, q1, q2, q3⟩
    rcases Nat.eq_zero_or_pos len with h0 | h0
    · subst h0
      exact ⟨some ad, 0, cap, [], rfl, ⟨TRow.nil _ _ _, rfl, (fun h => by cases h), hl, hm⟩⟩
    obtain ⟨b, off, spot⟩ := ad
    have hs : spot = none := by
      obtain ⟨_, _, c0, _⟩ := K 0 h0
      simpa [Addr.add] using World.cell?_spot c0
    subst hs
    obtain ⟨f, hf⟩ := Classical.axiomOfChoice (fun i => show ∃ u : Tup, i < len → u.ok ∧ w.cell? ⟨b, off + i * 4, none⟩ = some (.int .u32 u.1) ∧ w.cell? ⟨b, off + i * 4 + 1, none⟩ = some (.int .u32 u.2.1) ∧ w.cell? ⟨b, off + i * 4 + 2, none⟩ = some (.int .u16 u.2.2.1) ∧ w.cell? ⟨b, off + i * 4 + 3, none⟩ = some (.int .u16 u.2.2.2) from by
      by_cases h : i < len
      · obtain ⟨u, h1, q0, q1, q2, q3⟩ := K i h
        rw [addr_add] at q0 q1 q2 q3
        exact ⟨u, fun _ => ⟨h1, q0, q1, q2, q3⟩⟩
      · exact ⟨tup0, fun h2 => absurd h2 h⟩)
    refine ⟨_, len, cap, (List.range len).map f, rfl, ⟨⟨fun u hu => ?_, fun _ => ⟨b, off, rfl, ?_, fun j hj => ?_⟩⟩, by simp, (fun h => by cases h), hl, hm⟩⟩
    · obtain ⟨i, hi2, rfl⟩ := List.mem_map.1 hu
      exact (hf i (by simpa using hi2)).1
    · exact block_lt_of_cell (hf 0 h0).2.1
    · have hj' : j < len := by simpa using hj
      have e : ((List.range len).map f)[j]?.getD tup0 = f j := by simp [hj']
      rw [e]
      exact (hf j hj').2
end

end Go.Proofs.Ytklmlpnccbmpnaa
