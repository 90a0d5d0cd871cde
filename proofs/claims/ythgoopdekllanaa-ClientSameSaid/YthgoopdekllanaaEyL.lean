/- Entries that came in, opened: one, a slice of them. -/
import Derived.Test.YthgoopdekllanaaEyA
import Derived.Deep.Slices
import Derived.Stop.LaidErr
import Derived.Lib.LaidTab
namespace Go.Proofs.Ythgoopdekllanaa
open Go.RowKit Go.Joins Go.ChangeShapes Go.WideShapes Go.ChangeAt Go.Deep
open SumM

/-- Entries that came in. -/
structure IsERow (w : World) (a : Option Addr) (len cap : Nat) (us : List Ent) : Prop where
  row : SRow entC 4 w.heap.size w a us
  ok : ∀ u ∈ us, Ent.ok u
  hl : us.length = len
  hn : a = none → cap = 0
  hc : len ≤ cap ∧ cap ≤ maxLen

section
variable {H : Type} {enc : TypeId × Value → H} {w : World} {base : Nat} {spare : Nat → Bool} {held : Bool}
set_option maxRecDepth 100000 in
theorem ent_of_trod {cs : List Value} {r : DataW H} {p : List MemPlace} {n : Nat} (hsz : cs.length = 4) (hf : DataW.trod enc Try.prog w base spare held n 23 cs = some (r, p)) :
    ∃ u : Ent, cs = entC u ∧ Ent.ok u := by
  match cs, hsz with
  | [c0, c1, c2, c3], _ =>
    obtain ⟨xs, n, _, hx, _, hlen, hg⟩ := DataW.trod_struct Try.underlying23 hf
    have zi64 : Try.prog.cellsOf 3 = 1 := by kernel_rfl
    match xs, hlen with
    | [y0, y1, y2, y3], _ =>
      have g0 : DataW.trod enc Try.prog w base spare held n 3 [c0] = some y0 := by simpa [Value.cells, zi64] using hg 0 _ rfl
      have g1 : DataW.trod enc Try.prog w base spare held n 3 [c1] = some y1 := by simpa [Value.cells, zi64] using hg 1 _ rfl
      have g2 : DataW.trod enc Try.prog w base spare held n 3 [c2] = some y2 := by simpa [Value.cells, zi64] using hg 2 _ rfl
      have g3 : DataW.trod enc Try.prog w base spare held n 3 [c3] = some y3 := by simpa [Value.cells, zi64] using hg 3 _ rfl
      obtain ⟨ec, e0, _, w0⟩ := DataW.trod_int Try.underlying3 g0
      obtain ⟨ep, e1, _, w1⟩ := DataW.trod_int Try.underlying3 g1
      obtain ⟨eg, e2, _, w2⟩ := DataW.trod_int Try.underlying3 g2
      obtain ⟨et, e3, _, w3⟩ := DataW.trod_int Try.underlying3 g3
      simp only [List.cons.injEq, and_true] at e0 e1 e2 e3
      subst e0 e1 e2 e3
      exact ⟨(ec, ep, eg, et), rfl, ⟨wf_i64.1 w0, wf_i64.1 w1, wf_i64.1 w2, wf_i64.1 w3⟩⟩

set_option maxRecDepth 100000 in
theorem open_ent {r : Reach} {b0 : Nat} {v : Value} {d : DataW H} {p : List MemPlace} (_hsp : ∀ b, spare b = true) (hv : Value.okWide Try.prog w r b0 23 v) (h : DataW.Trod enc Try.prog w base spare held 23 v d p) :
    ∃ (ec ep eg et : Int), v = .agg #[.int .i64 ec, .int .i64 ep, .int .i64 eg, .int .i64 et] ∧ Ent.ok (ec, ep, eg, et) := by
  have hs := Try.underlying23
  have hC : Try.prog.cellsOf 23 = 4 := by kernel_rfl
  obtain ⟨cs, rfl, hsz⟩ := okWide_struct hs hv
  obtain ⟨fuel, hf⟩ := h
  obtain ⟨⟨ec, ep, eg, et⟩, h1, h2⟩ := ent_of_trod (by simpa [Value.cells] using hsz.trans hC) hf
  refine ⟨ec, ep, eg, et, ?_, h2⟩
  obtain ⟨l⟩ := cs
  simp only [Value.cells] at h1
  rw [h1]
  rfl

end
end Go.Proofs.Ythgoopdekllanaa
