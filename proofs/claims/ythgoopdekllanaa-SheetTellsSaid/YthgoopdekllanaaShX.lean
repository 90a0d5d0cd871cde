/- Sheets that came in, opened. -/
import Derived.Test.YthgoopdekllanaaShA
import Derived.Test.YthgoopdekllanaaEyL
import Derived.Deep.Slices
import Derived.Stop.LaidErr
import Derived.Lib.LaidTab
namespace Go.Proofs.Ythgoopdekllanaa
open Go.RowKit Go.Joins Go.ChangeShapes Go.WideShapes Go.ChangeAt Go.Deep
open SumM

/-- A sheet that came in. -/
structure IsSh (w : World) (sa : Option Addr) (sn sc : Nat) (rs : List SR) : Prop where
  row : SRow5 w.heap.size w sa rs
  hl : rs.length = sn
  hn : sa = none → sc = 0
  hc : sn ≤ sc ∧ sc ≤ maxLen

section
variable {H : Type} {enc : TypeId × Value → H} {w : World} {base : Nat} {spare : Nat → Bool} {held : Bool}
set_option maxRecDepth 100000 in
theorem row_of_trod {cs : List Value} {r : DataW H} {p : List MemPlace} {n : Nat} (hsz : cs.length = 5) (hf : DataW.trod enc Try.prog w base spare held n 63 cs = some (r, p)) :
    ∃ u : SR, cs = rowC u := by
  match cs, hsz with
  | [c0, c1, c2, c3, c4], _ =>
    obtain ⟨xs, n, _, hx, _, hlen, hg⟩ := DataW.trod_struct Try.underlying63 hf
    have z1 : Try.prog.cellsOf 3 = 1 := by kernel_rfl
    have z2 : Try.prog.cellsOf 23 = 4 := by kernel_rfl
    match xs, hlen with
    | [y0, y1], _ =>
      have g0 : DataW.trod enc Try.prog w base spare held n 3 [c0] = some y0 := by simpa [Value.cells, z1, z2] using hg 0 _ rfl
      have g1 : DataW.trod enc Try.prog w base spare held n 23 [c1, c2, c3, c4] = some y1 := by simpa [Value.cells, z1, z2] using hg 1 _ rfl
      obtain ⟨rb, e0, _, w0⟩ := DataW.trod_int Try.underlying3 g0
      obtain ⟨u, e1, _⟩ := ent_of_trod rfl g1
      simp only [List.cons.injEq, and_true] at e0
      subst e0
      exact ⟨(rb, u), by rw [e1]; rfl⟩

set_option maxRecDepth 100000 in
theorem rows_of_trod (hsp : ∀ b, spare b = true) {v : Value} {r : DataW H} {p : List MemPlace} {fuel : Nat} (hf : DataW.trod enc Try.prog w base spare held fuel 27 [v] = some (r, p)) :
    ∃ (a : Option Addr) (len cap : Nat) (us : List SR), v = .slice a len cap ∧ IsSh w a len cap us := by
  have hC : Try.prog.cellsOf 63 = 5 := by kernel_rfl
  rcases open_slice Try.underlying27 hf with ⟨hcs, _⟩ | ⟨ad, len, cap, m, n, D, Pl, hcs, hb, hl, hm, hmm, hx, hi⟩
  · simp at hcs
    subst hcs
    exact ⟨none, 0, 0, [], rfl, ⟨SRow.nil _ _ _ _ _, rfl, fun _ => rfl, Nat.le_refl _, Nat.zero_le _⟩⟩
  · simp at hcs
    subst hcs
    have hml : len ≤ m := by rw [hmm, if_pos (hsp _)]; exact hl
    have K : ∀ i, i < len → ∃ u : SR, ∀ k v, (rowC u)[k]? = some v → w.cell? (ad.add (i * 5 + k)) = some v := by
      intro i hil
      obtain ⟨cs', hc, ht'⟩ := hi i (by omega)
      rw [hC] at hc
      obtain ⟨_, hcl, hat⟩ := World.cells?_some hc
      obtain ⟨u, rfl⟩ := row_of_trod hcl ht'
      refine ⟨u, fun k v hv => ?_⟩
      have hk : k < 5 := by
        rcases Nat.lt_or_ge k 5 with h | h
        · exact h
        · rw [List.getElem?_eq_none (by rw [rowC_len]; exact h)] at hv
          cases hv
      have q := hat k hk
      rw [Go.Deep.add_add] at q
      rw [q]
      exact hv
    rcases Nat.eq_zero_or_pos len with h0 | h0
    · subst h0
      exact ⟨some ad, 0, cap, [], rfl, ⟨SRow.nil _ _ _ _ _, rfl, (fun h => by cases h), hl, hm⟩⟩
    obtain ⟨b, off, spot⟩ := ad
    have hs : spot = none := by
      obtain ⟨u, c0⟩ := K 0 h0
      have := c0 0 _ rfl
      simpa [Addr.add] using World.cell?_spot this
    subst hs
    obtain ⟨f, hf⟩ := Classical.axiomOfChoice (fun i => show ∃ u : SR, i < len → ∀ k v, (rowC u)[k]? = some v → w.cell? ⟨b, off + (i * 5 + k), none⟩ = some v from by
      by_cases h : i < len
      · obtain ⟨u, h1⟩ := K i h
        refine ⟨u, fun _ k v hv => ?_⟩
        have := h1 k v hv
        rwa [addr_add] at this
      · exact ⟨sr0, fun h2 => absurd h2 h⟩)
    refine ⟨_, len, cap, (List.range len).map f, rfl, ⟨fun _ => ⟨b, off, rfl, block_lt_of_cell (hf 0 h0 0 _ rfl), fun j hj r v hv => ?_⟩, by simp, (fun h => by cases h), hl, hm⟩⟩
    have hj' : j < len := by simpa using hj
    simp only [List.getElem_map, List.getElem_range] at hv
    rw [Nat.add_assoc]
    exact hf j hj' r v hv

set_option maxRecDepth 100000 in
theorem open_sheet {r : Reach} {b0 : Nat} {v : Value} {d : DataW H} {p : List MemPlace} (hsp : ∀ b, spare b = true) (hv : Value.okWide Try.prog w r b0 29 v) (h : DataW.Trod enc Try.prog w base spare held 29 v d p) :
    ∃ (ba tv : Int) (sa : Option Addr) (sn sc : Nat) (rs : List SR), v = .agg #[.int .i64 ba, .int .i64 tv, .slice sa sn sc] ∧ IsSh w sa sn sc rs := by
  have hs := Try.underlying29
  have hC : Try.prog.cellsOf 29 = 3 := by kernel_rfl
  obtain ⟨cs, rfl, hsz⟩ := okWide_struct hs hv
  obtain ⟨l⟩ := cs
  match l, hsz.trans hC with
  | [c0, c1, c2], _ =>
    obtain ⟨fuel, hf⟩ := h
    obtain ⟨xs, n, _, hx, _, hlen, hg⟩ := DataW.trod_struct hs hf
    have z1 : Try.prog.cellsOf 3 = 1 := by kernel_rfl
    have z2 : Try.prog.cellsOf 27 = 1 := by kernel_rfl
    match xs, hlen with
    | [y0, y1, y2], _ =>
      have g0 : DataW.trod enc Try.prog w base spare held n 3 [c0] = some y0 := by simpa [Value.cells, z1, z2] using hg 0 _ rfl
      have g1 : DataW.trod enc Try.prog w base spare held n 3 [c1] = some y1 := by simpa [Value.cells, z1, z2] using hg 1 _ rfl
      have g2 : DataW.trod enc Try.prog w base spare held n 27 [c2] = some y2 := by simpa [Value.cells, z1, z2] using hg 2 _ rfl
      obtain ⟨ba, e0, _, _⟩ := DataW.trod_int Try.underlying3 g0
      obtain ⟨tv, e1, _, _⟩ := DataW.trod_int Try.underlying3 g1
      obtain ⟨sa, sn, sc, rs, e2, hI⟩ := rows_of_trod hsp g2
      simp only [List.cons.injEq, and_true] at e0 e1
      subst e0 e1 e2
      exact ⟨ba, tv, sa, sn, sc, rs, rfl, hI⟩
end
end Go.Proofs.Ythgoopdekllanaa
