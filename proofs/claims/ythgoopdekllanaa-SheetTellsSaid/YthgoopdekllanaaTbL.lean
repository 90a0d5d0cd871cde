/- A table that came in, opened. -/
import Derived.Test.YthgoopdekllanaaEyL
import Derived.Test.YthgoopdekllanaaTbA
namespace Go.Proofs.Ythgoopdekllanaa
open Go.RowKit Go.Joins Go.ChangeShapes Go.WideShapes Go.ChangeAt Go.Deep
open SumM

/-- A table's numbers, as they come in: each of 64 bits. -/
def TabOk (T : Nat → Int) : Prop := ∀ o, o < 65 → I64 (T o)

section
variable {H : Type} {enc : TypeId × Value → H} {w : World} {base : Nat} {spare : Nat → Bool} {held : Bool}
set_option maxRecDepth 100000 in
theorem tab_of_trod {cs : List Value} {r : DataW H} {p : List MemPlace} {n : Nat} (hsz : cs.length = 65) (hf : DataW.trod enc Try.prog w base spare held n 26 cs = some (r, p)) :
    ∃ T : Nat → Int, cs = numL 65 T ∧ TabOk T := by
  obtain ⟨xs, m, _, _, _, hlen, hg⟩ := DataW.trod_struct Try.underlying26 hf
  have hl2 : xs.length = 2 := hlen
  have zi64 : Try.prog.cellsOf 3 = 1 := by kernel_rfl
  have za : Try.prog.cellsOf 24 = 64 := by kernel_rfl
  have ze : Try.prog.cellsOf 23 = 4 := by kernel_rfl
  match xs, hl2 with
  | [y0, y1], _ =>
    have g0 : DataW.trod enc Try.prog w base spare held m 3 ((cs.drop 0).take (Try.prog.cellsOf 3)) = some y0 := hg 0 _ rfl
    have g1 : DataW.trod enc Try.prog w base spare held m 24 ((cs.drop 1).take (Try.prog.cellsOf 24)) = some y1 := hg 1 _ rfl
    obtain ⟨v, e0, _, w0⟩ := DataW.trod_int Try.underlying3 g0
    obtain ⟨ys, m', _, _, _, hyl, hy⟩ := DataW.trod_array Try.underlying24 g1
    rw [zi64] at e0
    rw [za] at hy
    rw [ze] at hy
    have hc0 : cs[0]? = some (.int .i64 v) := by
      have : (List.take 1 (cs.drop 0))[0]? = some (.int .i64 v) := by rw [e0]; rfl
      simpa using this
    have hcell : ∀ i, i < 16 → ∃ u : Ent, Ent.ok u ∧ ∀ j, j < 4 → cs[1 + i * 4 + j]? = (entC u)[j]? := by
      intro i hi
      have h1 := hy i hi
      have hyi : ys[i]? = some (ys[i]'(by rw [hyl]; exact hi)) := List.getElem?_eq_getElem _
      rw [hyi] at h1
      have hln : (((cs.drop 1).take 64).drop (i * 4) |>.take 4).length = 4 := by simp; omega
      obtain ⟨u, hu, hok⟩ := ent_of_trod hln h1
      refine ⟨u, hok, fun j hj => ?_⟩
      rw [← hu]
      simp only [List.getElem?_take, List.getElem?_drop, hj, if_true]
      rw [if_pos (by omega)]
      congr 1
      omega
    have hall : ∀ o, o < 65 → ∃ x : Int, cs[o]? = some (.int .i64 x) ∧ I64 x := by
      intro o ho
      rcases Nat.eq_zero_or_pos o with rfl | h0
      · exact ⟨v, hc0, wf_i64.1 w0⟩
      · obtain ⟨u, hok, hu⟩ := hcell ((o - 1) / 4) (by omega)
        have h1 := hu ((o - 1) % 4) (by omega)
        rw [show 1 + (o - 1) / 4 * 4 + (o - 1) % 4 = o by omega] at h1
        have hr : (o - 1) % 4 = 0 ∨ (o - 1) % 4 = 1 ∨ (o - 1) % 4 = 2 ∨ (o - 1) % 4 = 3 := by omega
        rcases hr with hr | hr | hr | hr <;> rw [hr] at h1
        · exact ⟨u.1, h1, hok.h1⟩
        · exact ⟨u.2.1, h1, hok.h2⟩
        · exact ⟨u.2.2.1, h1, hok.h3⟩
        · exact ⟨u.2.2.2, h1, hok.h4⟩
    obtain ⟨T, hT⟩ := Classical.axiomOfChoice (fun o => show ∃ x : Int, o < 65 → cs[o]? = some (.int .i64 x) ∧ I64 x from by
      by_cases h : o < 65
      · obtain ⟨x, hx⟩ := hall o h
        exact ⟨x, fun _ => hx⟩
      · exact ⟨0, fun h2 => absurd h2 h⟩)
    refine ⟨T, ?_, fun o ho => (hT o ho).2⟩
    apply List.ext_getElem?
    intro o
    by_cases ho : o < 65
    · rw [(hT o ho).1, numL_get T ho]
    · rw [List.getElem?_eq_none (by omega), List.getElem?_eq_none (by rw [numL_len]; omega)]

set_option maxRecDepth 100000 in
theorem open_table {r : Reach} {b0 : Nat} {v : Value} {d : DataW H} {p : List MemPlace} (_hsp : ∀ b, spare b = true) (hv : Value.okWide Try.prog w r b0 26 v) (h : DataW.Trod enc Try.prog w base spare held 26 v d p) :
    ∃ T : Nat → Int, v = tabV T ∧ TabOk T := by
  have hs := Try.underlying26
  have hC : Try.prog.cellsOf 26 = 65 := by kernel_rfl
  obtain ⟨cs, rfl, hsz⟩ := okWide_struct hs hv
  obtain ⟨fuel, hf⟩ := h
  obtain ⟨T, h1, h2⟩ := tab_of_trod (by simpa [Value.cells] using hsz.trans hC) hf
  refine ⟨T, ?_, h2⟩
  obtain ⟨l⟩ := cs
  simp only [Value.cells] at h1
  rw [h1]
end
end Go.Proofs.Ythgoopdekllanaa
