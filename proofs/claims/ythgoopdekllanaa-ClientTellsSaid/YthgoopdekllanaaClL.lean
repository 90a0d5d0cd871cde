/- A client that came in, opened. -/
import Derived.Test.YthgoopdekllanaaTbL
import Derived.Test.YthgoopdekllanaaClA
namespace Go.Proofs.Ythgoopdekllanaa
open Go.RowKit Go.Joins Go.ChangeShapes Go.WideShapes Go.ChangeAt Go.Deep
open SumM

section
variable {H : Type} {enc : TypeId × Value → H} {w : World} {base : Nat} {spare : Nat → Bool} {held : Bool}
set_option maxRecDepth 100000 in
theorem open_client {r : Reach} {b0 : Nat} {v : Value} {d : DataW H} {p : List MemPlace} (_hsp : ∀ b, spare b = true) (hv : Value.okWide Try.prog w r b0 45 v) (h : DataW.Trod enc Try.prog w base spare held 45 v d p) :
    ∃ (c : Bool) (T : Nat → Int), v = cliV c T ∧ TabOk T := by
  have hs := Try.underlying45
  have hC : Try.prog.cellsOf 45 = 66 := by kernel_rfl
  obtain ⟨cs, rfl, hsz⟩ := okWide_struct hs hv
  obtain ⟨l⟩ := cs
  obtain ⟨fuel, hf⟩ := h
  have hlen : l.length = 66 := by simpa [Value.cells] using hsz.trans hC
  obtain ⟨xs, m, _, _, _, hxl, hg⟩ := DataW.trod_struct hs hf
  have hl2 : xs.length = 2 := hxl
  have zb : Try.prog.cellsOf 4 = 1 := by kernel_rfl
  have zt : Try.prog.cellsOf 26 = 65 := by kernel_rfl
  match xs, hl2, l, hlen with
  | [y0, y1], _, c0 :: cs, hlen =>
    have g0 : DataW.trod enc Try.prog w base spare held m 4 (((c0 :: cs).drop 0).take (Try.prog.cellsOf 4)) = some y0 := hg 0 _ rfl
    have g1 : DataW.trod enc Try.prog w base spare held m 26 (((c0 :: cs).drop 1).take (Try.prog.cellsOf 26)) = some y1 := hg 1 _ rfl
    obtain ⟨b, e0, _⟩ := DataW.trod_bool Try.underlying4 g0
    have hcl : cs.length = 65 := by simpa using hlen
    rw [zb] at e0
    rw [zt, List.drop_one, List.tail_cons, List.take_of_length_le (by omega)] at g1
    obtain ⟨T, h1, h2⟩ := tab_of_trod hcl g1
    have e0' : c0 = .bool b := by simpa using e0
    subst e0' h1
    exact ⟨b, T, rfl, h2⟩
end
end Go.Proofs.Ythgoopdekllanaa
