/- Nodes and wraps that came in, opened. -/
import Derived.Test.YthenbpnlmpeafaaDoorEnD
namespace Go.Proofs.YthenbpnlmpeafaaDoor
open Go.RowKit Go.Joins Go.ChangeShapes Go.WideShapes Go.ChangeAt Go.Deep
open SumM

/-- What the row's listed table gives the walks of layer 7. -/
theorem laid_of_met {W : World} (h : laidMetH Tryd.prog laidW W) : Wid W ∧ 0 < W.heap.size := wid_of_laid h

/-- A node that came in; a wrap that came in. -/
structure IsNd (nk ni : Int) : Prop where
  hk : 0 ≤ nk ∧ nk ≤ 255
  hi : -9223372036854775808 ≤ ni ∧ ni ≤ 9223372036854775807
structure IsWr (w : World) (fk fi xk xi kd bu cu pv ge ti : Int) (wa : Option Addr) (wn wc : Nat) (zs : List Int) : Prop where
  nf : IsNd fk fi
  nx : IsNd xk xi
  no : ONums kd bu cu pv ge ti
  hr : Row .u8 w.heap.size w wa zs
  hl : zs.length = wn
  hn : wa = none → wc = 0
  hc : wn ≤ wc ∧ wc ≤ maxLen

section
variable {H : Type} {enc : TypeId × Value → H} {w : World} {base : Nat} {spare : Nat → Bool} {held : Bool}
set_option maxRecDepth 100000 in
theorem nod_of_trod {fuel : Nat} {cs : List Value} {x : DataW H × List MemPlace} (hl : cs.length = 2) (hf : DataW.trod enc Tryd.prog w base spare held fuel 23 cs = some x) :
    ∃ nk ni : Int, cs = [.int .u8 nk, .int .i64 ni] ∧ (0 ≤ nk ∧ nk ≤ 255) ∧ -9223372036854775808 ≤ ni ∧ ni ≤ 9223372036854775807 := by
  match cs, hl with
  | [c0, c1], _ =>
    obtain ⟨xs, n, _, hx, _, hlen, hg⟩ := DataW.trod_struct Tryd.underlying23 hf
    have zi64 : Tryd.prog.cellsOf 3 = 1 := by kernel_rfl
    have zu8 : Tryd.prog.cellsOf 5 = 1 := by kernel_rfl
    match xs, hlen with
    | [y0, y1], _ =>
      have g0 : DataW.trod enc Tryd.prog w base spare held n 5 [c0] = some y0 := by simpa [zi64, zu8] using hg 0 _ rfl
      have g1 : DataW.trod enc Tryd.prog w base spare held n 3 [c1] = some y1 := by simpa [zi64, zu8] using hg 1 _ rfl
      obtain ⟨nk, e0, _, w0⟩ := DataW.trod_int Tryd.underlying5 g0
      obtain ⟨ni, e1, _, w1⟩ := DataW.trod_int Tryd.underlying3 g1
      simp only [List.cons.injEq, and_true] at e0 e1
      subst e0 e1
      exact ⟨nk, ni, rfl, ⟨wf_u8.1 w0, wf_i64.1 w1⟩⟩

set_option maxRecDepth 100000 in
theorem opt_of_trod {fuel : Nat} {cs : List Value} {x : DataW H × List MemPlace} (hl : cs.length = 6) (hf : DataW.trod enc Tryd.prog w base spare held fuel 26 cs = some x) :
    ∃ kd bu cu pv ge ti : Int, cs = [.int .u8 kd, .int .u8 bu, .int .i64 cu, .int .i64 pv, .int .i64 ge, .int .i64 ti] ∧ ONums kd bu cu pv ge ti := by
  match cs, hl with
  | [c0, c1, c2, c3, c4, c5], _ =>
    obtain ⟨xs, n, _, hx, _, hlen, hg⟩ := DataW.trod_struct Tryd.underlying26 hf
    have zi64 : Tryd.prog.cellsOf 3 = 1 := by kernel_rfl
    have zu8 : Tryd.prog.cellsOf 5 = 1 := by kernel_rfl
    match xs, hlen with
    | [y0, y1, y2, y3, y4, y5], _ =>
      have g0 : DataW.trod enc Tryd.prog w base spare held n 5 [c0] = some y0 := by simpa [zi64, zu8] using hg 0 _ rfl
      have g1 : DataW.trod enc Tryd.prog w base spare held n 5 [c1] = some y1 := by simpa [zi64, zu8] using hg 1 _ rfl
      have g2 : DataW.trod enc Tryd.prog w base spare held n 3 [c2] = some y2 := by simpa [zi64, zu8] using hg 2 _ rfl
      have g3 : DataW.trod enc Tryd.prog w base spare held n 3 [c3] = some y3 := by simpa [zi64, zu8] using hg 3 _ rfl
      have g4 : DataW.trod enc Tryd.prog w base spare held n 3 [c4] = some y4 := by simpa [zi64, zu8] using hg 4 _ rfl
      have g5 : DataW.trod enc Tryd.prog w base spare held n 3 [c5] = some y5 := by simpa [zi64, zu8] using hg 5 _ rfl
      obtain ⟨kd, e0, _, w0⟩ := DataW.trod_int Tryd.underlying5 g0
      obtain ⟨bu, e1, _, w1⟩ := DataW.trod_int Tryd.underlying5 g1
      obtain ⟨cu, e2, _, w2⟩ := DataW.trod_int Tryd.underlying3 g2
      obtain ⟨pv, e3, _, w3⟩ := DataW.trod_int Tryd.underlying3 g3
      obtain ⟨ge, e4, _, w4⟩ := DataW.trod_int Tryd.underlying3 g4
      obtain ⟨ti, e5, _, w5⟩ := DataW.trod_int Tryd.underlying3 g5
      simp only [List.cons.injEq, and_true] at e0 e1 e2 e3 e4 e5
      subst e0 e1 e2 e3 e4 e5
      exact ⟨kd, bu, cu, pv, ge, ti, rfl, ⟨wf_u8.1 w0, wf_u8.1 w1, wf_i64.1 w2, wf_i64.1 w3, wf_i64.1 w4, wf_i64.1 w5⟩⟩

set_option maxRecDepth 100000 in
theorem open_node {r : Reach} {b0 : Nat} {v : Value} {d : DataW H} {p : List MemPlace} (_hsp : ∀ b, spare b = true) (hv : Value.okWide Tryd.prog w r b0 23 v) (h : DataW.Trod enc Tryd.prog w base spare held 23 v d p) :
    ∃ (nk ni : Int), v = .agg #[.int .u8 nk, .int .i64 ni] ∧ IsNd nk ni := by
  have hC : Tryd.prog.cellsOf 23 = 2 := by kernel_rfl
  obtain ⟨cs, rfl, hsz⟩ := okWide_struct Tryd.underlying23 hv
  obtain ⟨l⟩ := cs
  obtain ⟨fuel, hf⟩ := h
  have hf' : DataW.trod enc Tryd.prog w base spare held fuel 23 l = some (d, p) := by simpa [Value.cells] using hf
  obtain ⟨nk, ni, rfl, h1, h2⟩ := nod_of_trod (by simpa using hsz.trans hC) hf'
  exact ⟨nk, ni, rfl, ⟨h1, h2⟩⟩

set_option maxRecDepth 100000 in
theorem open_wrap {r : Reach} {b0 : Nat} {v : Value} {d : DataW H} {p : List MemPlace} (hsp : ∀ b, spare b = true) (hv : Value.okWide Tryd.prog w r b0 29 v) (h : DataW.Trod enc Tryd.prog w base spare held 29 v d p) :
    ∃ (fk fi xk xi kd bu cu pv ge ti : Int) (wa : Option Addr) (wn wc : Nat) (zs : List Int), v = .agg #[.int .u8 fk, .int .i64 fi, .int .u8 xk, .int .i64 xi, .int .u8 kd, .int .u8 bu, .int .i64 cu, .int .i64 pv, .int .i64 ge, .int .i64 ti, .slice wa wn wc] ∧ IsWr w fk fi xk xi kd bu cu pv ge ti wa wn wc zs := by
  have hs := Tryd.underlying29
  have hC : Tryd.prog.cellsOf 29 = 11 := by kernel_rfl
  obtain ⟨cs, rfl, hsz⟩ := okWide_struct hs hv
  obtain ⟨l⟩ := cs
  match l, hsz.trans hC with
  | [c0, c1, c2, c3, c4, c5, c6, c7, c8, c9, c10], _ =>
    obtain ⟨fuel, hf⟩ := h
    obtain ⟨xs, n, _, hx, _, hlen, hg⟩ := DataW.trod_struct hs hf
    have z1 : Tryd.prog.cellsOf 23 = 2 := by kernel_rfl
    have z2 : Tryd.prog.cellsOf 26 = 6 := by kernel_rfl
    have z3 : Tryd.prog.cellsOf 27 = 1 := by kernel_rfl
    match xs, hlen with
    | [y0, y1, y2, y3], _ =>
      have g0 : DataW.trod enc Tryd.prog w base spare held n 23 [c0, c1] = some y0 := by simpa [Value.cells, z1, z2, z3] using hg 0 _ rfl
      have g1 : DataW.trod enc Tryd.prog w base spare held n 23 [c2, c3] = some y1 := by simpa [Value.cells, z1, z2, z3] using hg 1 _ rfl
      have g2 : DataW.trod enc Tryd.prog w base spare held n 26 [c4, c5, c6, c7, c8, c9] = some y2 := by simpa [Value.cells, z1, z2, z3] using hg 2 _ rfl
      have g3 : DataW.trod enc Tryd.prog w base spare held n 27 [c10] = some y3 := by simpa [Value.cells, z1, z2, z3] using hg 3 _ rfl
      obtain ⟨fk, fi, e0, h0⟩ := nod_of_trod rfl g0
      obtain ⟨xk, xi, e1, h1⟩ := nod_of_trod rfl g1
      obtain ⟨kd, bu, cu, pv, ge, ti, e2, h2⟩ := opt_of_trod rfl g2
      obtain ⟨wa, wn, wc, zs, e3, a1, a2, a3, a4, a5⟩ := open_bytes hsp g3
      simp only [List.cons.injEq, and_true] at e0 e1 e2
      obtain ⟨rfl, rfl⟩ := e0
      obtain ⟨rfl, rfl⟩ := e1
      obtain ⟨rfl, rfl, rfl, rfl, rfl, rfl⟩ := e2
      subst e3
      exact ⟨fk, fi, xk, xi, kd, bu, cu, pv, ge, ti, wa, wn, wc, zs, rfl, ⟨⟨h0.1, h0.2⟩, ⟨h1.1, h1.2⟩, h2, a1, a2, a3, ⟨a4, a5⟩⟩⟩
end
end Go.Proofs.YthenbpnlmpeafaaDoor
