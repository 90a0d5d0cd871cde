/- Entries that came in, opened: one, a slice of them. -/
import Derived.Test.YtpeaakcapfjncaaEyA
import Derived.Deep.Slices
import Derived.Stop.LaidErr
import Derived.Lib.LaidTab
namespace Go.Proofs.Ytpeaakcapfjncaa
open Go.RowKit Go.Joins Go.ChangeShapes Go.WideShapes Go.ChangeAt Go.Deep
open SumM

/-- Entries that came in. -/
structure IsERow (w : World) (a : Option Addr) (len cap : Nat) (us : List Ent) : Prop where
  row : SRow entC 4 w.heap.size w a us
  ok : ∀ u ∈ us, Ent.ok u
  hl : us.length = len
  hn : a = none → cap = 0
  hc : len ≤ cap ∧ cap ≤ maxLen

section
variable {H : Type} {enc : TypeId × Value → H} {w : World} {base : Nat} {spare : Nat → Bool} {held : Bool}
set_option maxRecDepth 100000 in
theorem ent_of_trod {cs : List Value} {r : DataW H} {p : List MemPlace} {n : Nat} (hsz : cs.length = 4) (hf : DataW.trod enc Try.prog w base spare held n 23 cs = some (r, p)) :
    ∃ u : Ent, cs = entC u ∧ Ent.ok u := by
  match cs, hsz with
  | [c0, c1, c2, c3], _ =>
    obtain ⟨xs, n, _, hx, _, hlen, hg⟩ := DataW.trod_struct Try.underlying23 hf
    have zi64 : Try.prog.cellsOf 3 = 1 := by kernel_rfl
    match xs, hlen with
    | [y0, y1, y2, y3], _ =>
      have g0 : DataW.trod enc Try.prog w base spare held n 3 [c0] = some y0 := by simpa [Value.cells, zi64] using hg 0 _ rfl
      have g1 : DataW.trod enc Try.prog w base spare held n 3 [c1] = some y1 := by simpa [Value.cells, zi64] using hg 1 _ rfl
      have g2 : DataW.trod enc Try.prog w base spare held n 3 [c2] = some y2 := by simpa [Value.cells, zi64] using hg 2 _ rfl
      have g3 : DataW.trod enc Try.prog w base spare held n 3 [c3] = some y3 := by simpa [Value.cells, zi64] using hg 3 _ rfl
      obtain ⟨ec, e0, _, w0⟩ := DataW.trod_int Try.underlying3 g0
      obtain ⟨ep, e1, _, w1⟩ := DataW.trod_int Try.underlying3 g1
      obtain ⟨eg, e2, _, w2⟩ := DataW.trod_int Try.underlying3 g2
      obtain ⟨et, e3, _, w3⟩ := DataW.trod_int Try.underlying3 g3
      simp only [List.cons.injEq, and_true] at e0 e1 e2 e3
      subst e0 e1 e2 e3
      exact ⟨(ec, ep, eg, et), rfl, ⟨wf_i64.1 w0, wf_i64.1 w1, wf_i64.1 w2, wf_i64.1 w3⟩⟩

set_option maxRecDepth 100000 in
theorem open_ent {r : Reach} {b0 : Nat} {v : Value} {d : DataW H} {p : List MemPlace} (_hsp : ∀ b, spare b = true) (hv : Value.okWide Try.prog w r b0 23 v) (h : DataW.Trod enc Try.prog w base spare held 23 v d p) :
    ∃ (ec ep eg et : Int), v = .agg #[.int .i64 ec, .int .i64 ep, .int .i64 eg, .int .i64 et] ∧ Ent.ok (ec, ep, eg, et) := by
  have hs := Try.underlying23
  have hC : Try.prog.cellsOf 23 = 4 := by kernel_rfl
  obtain ⟨cs, rfl, hsz⟩ := okWide_struct hs hv
  obtain ⟨fuel, hf⟩ := h
  obtain ⟨⟨ec, ep, eg, et⟩, h1, h2⟩ := ent_of_trod (by simpa [Value.cells] using hsz.trans hC) hf
  refine ⟨ec, ep, eg, et, ?_, h2⟩
  obtain ⟨l⟩ := cs
  simp only [Value.cells] at h1
  rw [h1]
  rfl

set_option maxRecDepth 100000 in
theorem open_ents {r : Reach} {b0 : Nat} {v : Value} {d : DataW H} {p : List MemPlace} (hsp : ∀ b, spare b = true) (hv : Value.okWide Try.prog w r b0 24 v) (h : DataW.Trod enc Try.prog w base spare held 24 v d p) :
    ∃ (a : Option Addr) (len cap : Nat) (us : List Ent), v = .slice a len cap ∧ IsERow w a len cap us := by
  obtain ⟨a, len, cap, rfl⟩ := okWide_slice Try.underlying24 hv
  obtain ⟨fuel, hf⟩ := h
  have hC : Try.prog.cellsOf 23 = 4 := by kernel_rfl
  rcases open_slice Try.underlying24 hf with ⟨hcs, _⟩ | ⟨ad, l, c, m, n, D, Pl, hcs, hb, hl, hm, hmm, hx, hi⟩
  · simp [Value.cells] at hcs
    obtain ⟨rfl, rfl, rfl⟩ := hcs
    exact ⟨none, 0, 0, [], rfl, ⟨SRow.nil _ _ _ _ _, by simp, rfl, fun _ => rfl, Nat.le_refl _, Nat.zero_le _⟩⟩
  · simp [Value.cells] at hcs
    obtain ⟨rfl, rfl, rfl⟩ := hcs
    have hml : len ≤ m := by rw [hmm, if_pos (hsp _)]; exact hl
    have K : ∀ i, i < len → ∃ u : Ent, Ent.ok u ∧ w.cell? (ad.add (i * 4)) = some (.int .i64 u.1) ∧ w.cell? (ad.add (i * 4 + 1)) = some (.int .i64 u.2.1) ∧ w.cell? (ad.add (i * 4 + 2)) = some (.int .i64 u.2.2.1) ∧ w.cell? (ad.add (i * 4 + 3)) = some (.int .i64 u.2.2.2) := by
      intro i hil
      obtain ⟨cs', hc, ht'⟩ := hi i (by omega)
      rw [hC] at hc
      obtain ⟨_, hcl, hat⟩ := World.cells?_some hc
      obtain ⟨u, rfl, hu⟩ := ent_of_trod hcl ht'
      have q0 := hat 0 (by decide)
      have q1 := hat 1 (by decide)
      have q2 := hat 2 (by decide)
      have q3 := hat 3 (by decide)
      rw [Go.Deep.add_add] at q0 q1 q2 q3
      exact ⟨u, hu, q0, q1, q2, q3⟩
    rcases Nat.eq_zero_or_pos len with h0 | h0
    · subst h0
      exact ⟨some ad, 0, cap, [], rfl, ⟨SRow.nil _ _ _ _ _, by simp, rfl, (fun h => by cases h), hl, hm⟩⟩
    obtain ⟨b, off, spot⟩ := ad
    have hs : spot = none := by
      obtain ⟨_, _, c0, _⟩ := K 0 h0
      simpa [Addr.add] using World.cell?_spot c0
    subst hs
    obtain ⟨f, hf⟩ := Classical.axiomOfChoice (fun i => show ∃ u : Ent, i < len → Ent.ok u ∧ w.cell? ⟨b, off + i * 4, none⟩ = some (.int .i64 u.1) ∧ w.cell? ⟨b, off + (i * 4 + 1), none⟩ = some (.int .i64 u.2.1) ∧ w.cell? ⟨b, off + (i * 4 + 2), none⟩ = some (.int .i64 u.2.2.1) ∧ w.cell? ⟨b, off + (i * 4 + 3), none⟩ = some (.int .i64 u.2.2.2) from by
      by_cases h : i < len
      · obtain ⟨u, h1, q0, q1, q2, q3⟩ := K i h
        rw [addr_add] at q0 q1 q2 q3
        exact ⟨u, fun _ => ⟨h1, q0, q1, q2, q3⟩⟩
      · exact ⟨ent0, fun h2 => absurd h2 h⟩)
    refine ⟨_, len, cap, (List.range len).map f, rfl, ⟨fun _ => ⟨b, off, rfl, block_lt_of_cell (hf 0 h0).2.1, fun j hj r v hv => ?_⟩, fun u hu => ?_, by simp, (fun h => by cases h), hl, hm⟩⟩
    · have hj' : j < len := by simpa using hj
      obtain ⟨_, q0, q1, q2, q3⟩ := hf j hj'
      simp only [List.getElem_map, List.getElem_range] at hv
      rw [Nat.add_assoc]
      match r, hv with
      | 0, hv => cases hv; exact q0
      | 1, hv => cases hv; exact q1
      | 2, hv => cases hv; exact q2
      | 3, hv => cases hv; exact q3
      | r + 4, hv => simp [entC] at hv
    · obtain ⟨i, hi2, rfl⟩ := List.mem_map.1 hu
      exact (hf i (by simpa using hi2)).1
end
end Go.Proofs.Ytpeaakcapfjncaa
