/- Options and entries that came in, opened. -/
import Derived.Test.YtjhicdinhcfbjaaOpA
namespace Go.Proofs.Ytjhicdinhcfbjaa
open Go.RowKit Go.Joins Go.ChangeShapes Go.WideShapes Go.ChangeAt Go.Deep
open SumM

section
variable {H : Type} {enc : TypeId × Value → H} {w : World} {base : Nat} {spare : Nat → Bool} {held : Bool}
set_option maxRecDepth 100000 in
theorem open_option {r : Reach} {b0 : Nat} {v : Value} {d : DataW H} {p : List MemPlace} (_hsp : ∀ b, spare b = true) (hv : Value.okWide Try.prog w r b0 23 v) (h : DataW.Trod enc Try.prog w base spare held 23 v d p) :
    ∃ (kd bu cu pv ge ti : Int), v = .agg #[.int .u8 kd, .int .u8 bu, .int .i64 cu, .int .i64 pv, .int .i64 ge, .int .i64 ti] ∧ ONums kd bu cu pv ge ti := by
  have hs := Try.underlying23
  have hC : Try.prog.cellsOf 23 = 6 := by kernel_rfl
  obtain ⟨cs, rfl, hsz⟩ := okWide_struct hs hv
  obtain ⟨l⟩ := cs
  match l, hsz.trans hC with
  | [c0, c1, c2, c3, c4, c5], _ =>
    obtain ⟨fuel, hf⟩ := h
    obtain ⟨xs, n, _, hx, _, hlen, hg⟩ := DataW.trod_struct hs hf
    have zi64 : Try.prog.cellsOf 3 = 1 := by kernel_rfl
    have zu8 : Try.prog.cellsOf 5 = 1 := by kernel_rfl
    match xs, hlen with
    | [y0, y1, y2, y3, y4, y5], _ =>
      have g0 : DataW.trod enc Try.prog w base spare held n 5 [c0] = some y0 := by simpa [Value.cells, zi64, zu8] using hg 0 _ rfl
      have g1 : DataW.trod enc Try.prog w base spare held n 5 [c1] = some y1 := by simpa [Value.cells, zi64, zu8] using hg 1 _ rfl
      have g2 : DataW.trod enc Try.prog w base spare held n 3 [c2] = some y2 := by simpa [Value.cells, zi64, zu8] using hg 2 _ rfl
      have g3 : DataW.trod enc Try.prog w base spare held n 3 [c3] = some y3 := by simpa [Value.cells, zi64, zu8] using hg 3 _ rfl
      have g4 : DataW.trod enc Try.prog w base spare held n 3 [c4] = some y4 := by simpa [Value.cells, zi64, zu8] using hg 4 _ rfl
      have g5 : DataW.trod enc Try.prog w base spare held n 3 [c5] = some y5 := by simpa [Value.cells, zi64, zu8] using hg 5 _ rfl
      obtain ⟨kd, e0, _, w0⟩ := DataW.trod_int Try.underlying5 g0
      obtain ⟨bu, e1, _, w1⟩ := DataW.trod_int Try.underlying5 g1
      obtain ⟨cu, e2, _, w2⟩ := DataW.trod_int Try.underlying3 g2
      obtain ⟨pv, e3, _, w3⟩ := DataW.trod_int Try.underlying3 g3
      obtain ⟨ge, e4, _, w4⟩ := DataW.trod_int Try.underlying3 g4
      obtain ⟨ti, e5, _, w5⟩ := DataW.trod_int Try.underlying3 g5
      simp only [List.cons.injEq, and_true] at e0 e1 e2 e3 e4 e5
      subst e0 e1 e2 e3 e4 e5
      exact ⟨kd, bu, cu, pv, ge, ti, rfl, ⟨wf_u8.1 w0, wf_u8.1 w1, wf_i64.1 w2, wf_i64.1 w3, wf_i64.1 w4, wf_i64.1 w5⟩⟩

set_option maxRecDepth 100000 in
theorem open_entry {r : Reach} {b0 : Nat} {v : Value} {d : DataW H} {p : List MemPlace} (_hsp : ∀ b, spare b = true) (hv : Value.okWide Try.prog w r b0 25 v) (h : DataW.Trod enc Try.prog w base spare held 25 v d p) :
    ∃ (ec ep eg et : Int), v = .agg #[.int .i64 ec, .int .i64 ep, .int .i64 eg, .int .i64 et] ∧ ONums 0 0 ec ep eg et := by
  have hs := Try.underlying25
  have hC : Try.prog.cellsOf 25 = 4 := by kernel_rfl
  obtain ⟨cs, rfl, hsz⟩ := okWide_struct hs hv
  obtain ⟨l⟩ := cs
  match l, hsz.trans hC with
  | [c0, c1, c2, c3], _ =>
    obtain ⟨fuel, hf⟩ := h
    obtain ⟨xs, n, _, hx, _, hlen, hg⟩ := DataW.trod_struct hs hf
    have zi64 : Try.prog.cellsOf 3 = 1 := by kernel_rfl
    match xs, hlen with
    | [y0, y1, y2, y3], _ =>
      have g0 : DataW.trod enc Try.prog w base spare held n 3 [c0] = some y0 := by simpa [Value.cells, zi64] using hg 0 _ rfl
      have g1 : DataW.trod enc Try.prog w base spare held n 3 [c1] = some y1 := by simpa [Value.cells, zi64] using hg 1 _ rfl
      have g2 : DataW.trod enc Try.prog w base spare held n 3 [c2] = some y2 := by simpa [Value.cells, zi64] using hg 2 _ rfl
      have g3 : DataW.trod enc Try.prog w base spare held n 3 [c3] = some y3 := by simpa [Value.cells, zi64] using hg 3 _ rfl
      obtain ⟨ec, e0, _, w0⟩ := DataW.trod_int Try.underlying3 g0
      obtain ⟨ep, e1, _, w1⟩ := DataW.trod_int Try.underlying3 g1
      obtain ⟨eg, e2, _, w2⟩ := DataW.trod_int Try.underlying3 g2
      obtain ⟨et, e3, _, w3⟩ := DataW.trod_int Try.underlying3 g3
      simp only [List.cons.injEq, and_true] at e0 e1 e2 e3
      subst e0 e1 e2 e3
      exact ⟨ec, ep, eg, et, rfl, ⟨by decide, by decide, wf_i64.1 w0, wf_i64.1 w1, wf_i64.1 w2, wf_i64.1 w3⟩⟩
end
end Go.Proofs.Ytjhicdinhcfbjaa
