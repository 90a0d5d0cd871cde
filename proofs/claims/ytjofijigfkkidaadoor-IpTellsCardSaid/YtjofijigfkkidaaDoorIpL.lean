/- A head that came in, opened; what the row's listed table gives the walks. -/
import Derived.Test.YtjofijigfkkidaaDoorIpR
import Derived.Test.YtjofijigfkkidaaDoorRows
import Derived.ProofKit
import Derived.LaidMore
import Derived.OpenShut
import Derived.Stop.Joined
import Derived.Lib.SmallJoins
namespace Go.Proofs.YtjofijigfkkidaaDoor
open Go.RowKit Go.Joins Go.ChangeShapes Go.WideShapes Go.ChangeAt Go.Deep
open SumM

/-- A head that came in. -/
structure IsHead (w : World) (sv nu fl ho pr sr ds : Int) (oa : Option Addr) (on oc : Nat) (pa : Option Addr) (pn pc : Nat) (os ps : List Int) : Prop where
  nums : Nums sv nu fl ho pr sr ds
  hro : Row .u8 w.heap.size w oa os
  hol : os.length = on
  hon : oa = none → oc = 0
  hoc : on ≤ oc ∧ oc ≤ maxLen
  hrp : Row .u8 w.heap.size w pa ps
  hpl : ps.length = pn
  hpn : pa = none → pc = 0
  hpc : pn ≤ pc ∧ pc ≤ maxLen

section
variable {H : Type} {enc : TypeId × Value → H} {w : World} {base : Nat} {spare : Nat → Bool} {held : Bool}
theorem open_bytes {fuel : Nat} {v : Value} {x : DataW H × List MemPlace} (hsp : ∀ b, spare b = true) (hf : DataW.trod enc Tryd.prog w base spare held fuel 24 [v] = some x) :
    ∃ (a : Option Addr) (n c : Nat) (zs : List Int), v = .slice a n c ∧ Row .u8 w.heap.size w a zs ∧ zs.length = n ∧ (a = none → c = 0) ∧ n ≤ c ∧ c ≤ maxLen := by
  rcases open_ints Tryd.underlying24 Tryd.underlying5 (by kernel_rfl) hf with ⟨hcs, _⟩ | ⟨a, l, c, zs, hcs, _, hl, hm, hz, _, hcell, hwz⟩
  · obtain rfl : v = .slice none 0 0 := by simpa using hcs
    exact ⟨none, 0, 0, [], rfl, Row.nil _ _ _ _, rfl, fun _ => rfl, Nat.le_refl _, Nat.zero_le _⟩
  · obtain rfl : v = .slice (some a) l c := by simpa using hcs
    have hr : IsRow .u8 w (some a) l c zs := .inr ⟨a, rfl, hl, hm, by simpa [hsp] using hz, hcell, hwz⟩
    obtain ⟨h1, h2, h3, h4, h5⟩ := hr.row
    exact ⟨some a, l, c, _, rfl, h1, h2, h3, h4, h5⟩
theorem open_head {r : Reach} {b0 : Nat} {v : Value} {d : DataW H} {p : List MemPlace} (hsp : ∀ b, spare b = true) (hv : Value.okWide Tryd.prog w r b0 26 v) (h : DataW.Trod enc Tryd.prog w base spare held 26 v d p) :
    ∃ (sv nu fl ho pr sr ds : Int) (oa : Option Addr) (on oc : Nat) (pa : Option Addr) (pn pc : Nat) (os ps : List Int), v = .agg #[.int .u8 sv, .int .u16 nu, .int .u16 fl, .int .u8 ho, .int .u8 pr, .int .u32 sr, .int .u32 ds, .slice oa on oc, .slice pa pn pc] ∧ IsHead w sv nu fl ho pr sr ds oa on oc pa pn pc os ps := by
  have hs := Tryd.underlying26
  have hC : Tryd.prog.cellsOf 26 = 9 := by kernel_rfl
  obtain ⟨cs, rfl, hsz⟩ := okWide_struct hs hv
  obtain ⟨l⟩ := cs
  match l, hsz.trans hC with
  | [c0, c1, c2, c3, c4, c5, c6, c7, c8], _ =>
    obtain ⟨fuel, hf⟩ := h
    obtain ⟨xs, n, _, hx, _, hlen, hg⟩ := DataW.trod_struct hs hf
    have z1 : Tryd.prog.cellsOf 5 = 1 := by kernel_rfl
    have z2 : Tryd.prog.cellsOf 22 = 1 := by kernel_rfl
    have z3 : Tryd.prog.cellsOf 23 = 1 := by kernel_rfl
    have z4 : Tryd.prog.cellsOf 24 = 1 := by kernel_rfl
    match xs, hlen with
    | [y0, y1, y2, y3, y4, y5, y6, y7, y8], _ =>
      have g0 : DataW.trod enc Tryd.prog w base spare held n 5 [c0] = some y0 := by simpa [Value.cells, z1, z2, z3, z4] using hg 0 _ rfl
      have g1 : DataW.trod enc Tryd.prog w base spare held n 22 [c1] = some y1 := by simpa [Value.cells, z1, z2, z3, z4] using hg 1 _ rfl
      have g2 : DataW.trod enc Tryd.prog w base spare held n 22 [c2] = some y2 := by simpa [Value.cells, z1, z2, z3, z4] using hg 2 _ rfl
      have g3 : DataW.trod enc Tryd.prog w base spare held n 5 [c3] = some y3 := by simpa [Value.cells, z1, z2, z3, z4] using hg 3 _ rfl
      have g4 : DataW.trod enc Tryd.prog w base spare held n 5 [c4] = some y4 := by simpa [Value.cells, z1, z2, z3, z4] using hg 4 _ rfl
      have g5 : DataW.trod enc Tryd.prog w base spare held n 23 [c5] = some y5 := by simpa [Value.cells, z1, z2, z3, z4] using hg 5 _ rfl
      have g6 : DataW.trod enc Tryd.prog w base spare held n 23 [c6] = some y6 := by simpa [Value.cells, z1, z2, z3, z4] using hg 6 _ rfl
      have g7 : DataW.trod enc Tryd.prog w base spare held n 24 [c7] = some y7 := by simpa [Value.cells, z1, z2, z3, z4] using hg 7 _ rfl
      have g8 : DataW.trod enc Tryd.prog w base spare held n 24 [c8] = some y8 := by simpa [Value.cells, z1, z2, z3, z4] using hg 8 _ rfl
      obtain ⟨sv, e0, _, w0⟩ := DataW.trod_int Tryd.underlying5 g0
      obtain ⟨nu, e1, _, w1⟩ := DataW.trod_int Tryd.underlying22 g1
      obtain ⟨fl, e2, _, w2⟩ := DataW.trod_int Tryd.underlying22 g2
      obtain ⟨ho, e3, _, w3⟩ := DataW.trod_int Tryd.underlying5 g3
      obtain ⟨pr, e4, _, w4⟩ := DataW.trod_int Tryd.underlying5 g4
      obtain ⟨sr, e5, _, w5⟩ := DataW.trod_int Tryd.underlying23 g5
      obtain ⟨ds, e6, _, w6⟩ := DataW.trod_int Tryd.underlying23 g6
      obtain ⟨oa, on, oc, os, e7, a1, a2, a3, a4, a5⟩ := open_bytes hsp g7
      obtain ⟨pa, pn, pc, ps, e8, b1, b2, b3, b4, b5⟩ := open_bytes hsp g8
      simp only [List.cons.injEq, and_true] at e0 e1 e2 e3 e4 e5 e6
      subst e0 e1 e2 e3 e4 e5 e6 e7 e8
      have u32 : ∀ n : Int, (Lit.int .u32 n).wf = true → 0 ≤ n ∧ n ≤ 4294967295 := fun n h => by simpa [Lit.wf, IntKind.min, IntKind.max, IntKind.bits, IntKind.signed] using h
      exact ⟨sv, nu, fl, ho, pr, sr, ds, oa, on, oc, pa, pn, pc, os, ps, rfl, ⟨⟨wf_u8.1 w0, wf_u16.1 w1, wf_u16.1 w2, wf_u8.1 w3, wf_u8.1 w4, u32 _ w5, u32 _ w6⟩, a1, a2, a3, ⟨a4, a5⟩, b1, b2, b3, ⟨b4, b5⟩⟩⟩
end

/-- What the row lists. -/
def laidW : List (String × DataW Unit) := [("handfast/ip.widths", Rows.laid_handfast_ip_widths)]
theorem gWidths : Tryd.prog.globalNamed "handfast/ip.widths" = some 0 := by kernel_rfl
theorem tWidths : (Tryd.prog.globals[0]?).map (·.type) = some 57 := by kernel_rfl
theorem door_met (os : Os) (args : Array Value) : laidMetH Tryd.prog laidW ((World.doorLaid Tryd.prog 400 os).forCall (fun _ _ => 0) ⟨#[], args, []⟩).memory :=
  laidMetH_of_parts3 (fuel := 8) (laidMet_of_run' 8 (by kernel_rfl) (by kernel_rfl)) (by kernel_rfl) (by kernel_rfl)
theorem wid_of_laid {W : World} (h : laidMetH Tryd.prog laidW W) : Wid W ∧ 0 < W.heap.size := by
  rw [MakeChecks.laidMetH_plain _ _ _ (by kernel_rfl)] at h
  obtain ⟨ps, ⟨g0, t0, cs0, f0, p0, q0, hg0, ht0, hv0, hd0, _⟩, _⟩ := h
  obtain rfl := Option.some.inj (gWidths.symm.trans hg0)
  obtain rfl := Option.some.inj (tWidths.symm.trans ht0)
  obtain ⟨xs, m, rfl, hx, hlen, hn, hel⟩ := DataW.trod_array Tryd.underlying57 hd0
  have c1 : Tryd.prog.cellsOf 3 = 1 := by kernel_rfl
  have c10 : Tryd.prog.cellsOf 57 = 10 := by kernel_rfl
  rw [c10] at hlen
  rw [c1] at hel
  simp only [Prod.mk.injEq, Rows.laid_handfast_ip_widths, DataW.agg.injEq] at hx
  have hW : Wid W := by
    intro i hi
    obtain ⟨y, hy⟩ : ∃ y, xs[i]? = some y := ⟨_, List.getElem?_eq_getElem (by omega)⟩
    have h1 := hel i hi
    rw [hy] at h1
    obtain ⟨k, e1, e2, _⟩ := DataW.trod_int Tryd.underlying3 h1
    have h2 : (xs.map (·.1))[i]? = some (.lit (.int .i64 k)) := by rw [List.getElem?_map, hy, e2]; rfl
    rw [← hx.1] at h2
    have hk : k = widthAt i := by
      clear h1 e1 hy hel hv0
      obtain rfl | rfl | rfl | rfl | rfl | rfl | rfl | rfl | rfl | rfl : i = 0 ∨ i = 1 ∨ i = 2 ∨ i = 3 ∨ i = 4 ∨ i = 5 ∨ i = 6 ∨ i = 7 ∨ i = 8 ∨ i = 9 := by omega
      all_goals (simp at h2; simp [widthAt, ← h2])
    rw [World.var?_cell gWidths hv0 i, ← hk]
    have h3 : cs0.toList[i]? = some (.int .i64 k) := by
      have : (List.take 1 (List.drop (i * 1) cs0.toList))[0]? = some (.int .i64 k) := by rw [e1]; rfl
      simpa using this
    simpa using h3
  exact ⟨hW, block_lt_of_cell (hW 0 (by decide))⟩
end Go.Proofs.YtjofijigfkkidaaDoor
