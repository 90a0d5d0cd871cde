/- A TCP head that came in, opened. -/
import Derived.Test.YtclofmgnnohhpaaTcpR2
import Derived.Test.YtclofmgnnohhpaaGenL
namespace Go.Proofs.Ytclofmgnnohhpaa
open Go.RowKit Go.Joins Go.ChangeShapes Go.WideShapes Go.ChangeAt Go.Deep
open SumM

/-- A head that came in. -/
structure IsTcp (w : World) (sp dp tf hd : Int) (da : Option Addr) (dn dc : Nat) (ps : List Int) : Prop where
  nums : TNums sp dp tf
  hh : -9223372036854775808 ≤ hd ∧ hd ≤ 9223372036854775807
  hrp : Row .u8 w.heap.size w da ps
  hpl : ps.length = dn
  hpn : da = none → dc = 0
  hpc : dn ≤ dc ∧ dc ≤ maxLen

section
variable {H : Type} {enc : TypeId × Value → H} {w : World} {base : Nat} {spare : Nat → Bool} {held : Bool}
theorem open_tcp {r : Reach} {b0 : Nat} {v : Value} {d : DataW H} {p : List MemPlace} (hsp : ∀ b, spare b = true) (hv : Value.okWide Try.prog w r b0 26 v) (h : DataW.Trod enc Try.prog w base spare held 26 v d p) :
    ∃ (sp dp tf hd : Int) (da : Option Addr) (dn dc : Nat) (ps : List Int), v = .agg #[.int .u16 sp, .int .u16 dp, .int .u8 tf, .int .i64 hd, .slice da dn dc] ∧ IsTcp w sp dp tf hd da dn dc ps := by
  have hs := Try.underlying26
  have hC : Try.prog.cellsOf 26 = 5 := by kernel_rfl
  obtain ⟨cs, rfl, hsz⟩ := okWide_struct hs hv
  obtain ⟨l⟩ := cs
  match l, hsz.trans hC with
  | [c0, c1, c2, c3, c4], _ =>
    obtain ⟨fuel, hf⟩ := h
    obtain ⟨xs, n, _, hx, _, hlen, hg⟩ := DataW.trod_struct hs hf
    have z1 : Try.prog.cellsOf 5 = 1 := by kernel_rfl
    have z2 : Try.prog.cellsOf 24 = 1 := by kernel_rfl
    have z3 : Try.prog.cellsOf 3 = 1 := by kernel_rfl
    have z4 : Try.prog.cellsOf 23 = 1 := by kernel_rfl
    match xs, hlen with
    | [y0, y1, y2, y3, y4], _ =>
      have g0 : DataW.trod enc Try.prog w base spare held n 24 [c0] = some y0 := by simpa [Value.cells, z1, z2, z3, z4] using hg 0 _ rfl
      have g1 : DataW.trod enc Try.prog w base spare held n 24 [c1] = some y1 := by simpa [Value.cells, z1, z2, z3, z4] using hg 1 _ rfl
      have g2 : DataW.trod enc Try.prog w base spare held n 5 [c2] = some y2 := by simpa [Value.cells, z1, z2, z3, z4] using hg 2 _ rfl
      have g3 : DataW.trod enc Try.prog w base spare held n 3 [c3] = some y3 := by simpa [Value.cells, z1, z2, z3, z4] using hg 3 _ rfl
      have g4 : DataW.trod enc Try.prog w base spare held n 23 [c4] = some y4 := by simpa [Value.cells, z1, z2, z3, z4] using hg 4 _ rfl
      obtain ⟨sp, e0, _, w0⟩ := DataW.trod_int Try.underlying24 g0
      obtain ⟨dp, e1, _, w1⟩ := DataW.trod_int Try.underlying24 g1
      obtain ⟨tf, e2, _, w2⟩ := DataW.trod_int Try.underlying5 g2
      obtain ⟨hd, e3, _, w3⟩ := DataW.trod_int Try.underlying3 g3
      obtain ⟨da, dn, dc, ps, e4, a1, a2, a3, a4, a5⟩ := open_bytes hsp g4
      simp only [List.cons.injEq, and_true] at e0 e1 e2 e3
      subst e0 e1 e2 e3 e4
      exact ⟨sp, dp, tf, hd, da, dn, dc, ps, rfl, ⟨wf_u16.1 w0, wf_u16.1 w1, wf_u8.1 w2⟩, wf_i64.1 w3, a1, a2, a3, ⟨a4, a5⟩⟩
end
end Go.Proofs.Ytclofmgnnohhpaa
