/- Package encap: wrapOf: what a head would be the head of. -/
import Derived.Test.YthenbpnlmpeafaaDoorEnP
import Derived.Test.YthenbpnlmpeafaaDoorOpT
namespace Go.Proofs.YthenbpnlmpeafaaDoor
open Go.RowKit Go.Shelf
open SumM

set_option maxRecDepth 100000 in
set_option maxHeartbeats 8000000 in
theorem eWrapOf_any (sv nu fl ho pr sr ds : Int) (oa : Option Addr) (on oc : Nat) (pa : Option Addr) (pn pc : Nat) (os : List Int) (hol : os.length = on) (hlc : on ≤ oc) (hc : oc ≤ 9223372036854775807) (w : World) (hro : Row .u8 w.heap.size w oa os) :
    Calls Tryd.prog 35 #[.agg #[.int .u8 sv, .int .u16 nu, .int .u16 fl, .int .u8 ho, .int .u8 pr, .int .u32 sr, .int .u32 ds, .slice oa on oc, .slice pa pn pc]] w fun e w' => e = .returned (.agg #[.int .u8 (nodV sr).1, .int .i64 (nodV sr).2, .int .u8 (nodV ds).1, .int .i64 (nodV ds).2, .int .u8 (otF os).1, .int .u8 (otF os).2.1, .int .i64 (otF os).2.2.1, .int .i64 (otF os).2.2.2.1, .int .i64 (otF os).2.2.2.2.1, .int .i64 (otF os).2.2.2.2.2, .slice pa pn pc]) ∧ Below w.heap.size w w' := by
  have bH := blk_al (heap_alloc_new w (.cells #[.int .u8 sv, .int .u16 nu, .int .u16 fl, .int .u8 ho, .int .u8 pr, .int .u32 sr, .int .u32 ds, .slice oa on oc, .slice pa pn pc] 51)) (.cells #[.int .u8 0, .int .i64 0, .int .u8 0, .int .i64 0, .int .u8 0, .int .u8 0, .int .i64 0, .int .i64 0, .int .i64 0, .int .i64 0, .slice none 0 0] 29)
  have bR := heap_alloc_new_at (w := w.alloc (.cells #[.int .u8 sv, .int .u16 nu, .int .u16 fl, .int .u8 ho, .int .u8 pr, .int .u32 sr, .int .u32 ds, .slice oa on oc, .slice pa pn pc] 51)) (m := w.heap.size + 1) (by simp) (.cells #[.int .u8 0, .int .i64 0, .int .u8 0, .int .i64 0, .int .u8 0, .int .u8 0, .int .i64 0, .int .i64 0, .int .i64 0, .int .i64 0, .slice none 0 0] 29)
  have L0 := ((Below.refl w.heap.size w).alloc (Nat.le_refl _) (.cells #[.int .u8 sv, .int .u16 nu, .int .u16 fl, .int .u8 ho, .int .u8 pr, .int .u32 sr, .int .u32 ds, .slice oa on oc, .slice pa pn pc] 51)).alloc (by simp) (.cells #[.int .u8 0, .int .i64 0, .int .u8 0, .int .i64 0, .int .u8 0, .int .u8 0, .int .i64 0, .int .i64 0, .int .i64 0, .int .i64 0, .slice none 0 0] 29)
  have HR := Lib.hid (fun W (m : Below w.heap.size w W) => (hro.below m).more m.size)
  have HO := Lib.hid hol
  have HC := Lib.hid (And.intro hlc hc)
  obtain ⟨⟨d0, d1⟩, hd8⟩ : ∃ v, nodV sr = v := ⟨_, rfl⟩
  obtain ⟨⟨d2, d3⟩, hd9⟩ : ∃ v, nodV ds = v := ⟨_, rfl⟩
  obtain ⟨n8, hn8⟩ : ∃ v, nodB sr = v := ⟨_, rfl⟩
  obtain ⟨n9, hn9⟩ : ∃ v, nodB ds = v := ⟨_, rfl⟩
  obtain ⟨oy, hoy⟩ : ∃ y, otY os = y := ⟨_, rfl⟩
  obtain ⟨⟨f0, f1, f2, f3, f4, f5⟩, hof⟩ : ∃ f, otF os = f := ⟨_, rfl⟩
  have KN := Lib.hid (fun W => show Calls Tryd.prog 11 #[.int .u32 sr] W fun e w' => e = .returned (.tuple #[.agg #[.int .u8 d0, .int .i64 d1], .bool n8]) ∧ Below W.heap.size W w' from by
    have h := eNode_is sr W
    rwa [hd8, hn8] at h)
  have KM := Lib.hid (fun W => show Calls Tryd.prog 11 #[.int .u32 ds] W fun e w' => e = .returned (.tuple #[.agg #[.int .u8 d2, .int .i64 d3], .bool n9]) ∧ Below W.heap.size W w' from by
    have h := eNode_is ds W
    rwa [hd9, hn9] at h)
  have KT := Lib.hid (fun W (m : Below w.heap.size w W) => show Calls Tryd.prog 60 #[.slice oa on oc] W fun e w' => e = .returned (.tuple #[.agg #[.int .u8 f0, .int .u8 f1, .int .i64 f2, .int .i64 f3, .int .i64 f4, .int .i64 f5], .int .i64 oy]) ∧ Below W.heap.size W w' from by
    have h := oTake_any oa on oc os HO.out HC.out.1 HC.out.2 W (HR.out W m)
    unfold OTakeRet at h
    rwa [hof, hoy] at h)
  rw [hd8, hd9, hof]
  clear hd8 hd9 hn8 hn9 hoy hof hro hol hlc hc HR HO HC
  go_enter Tryd.func35, Tryd.ntmps35
  go_upto_region 1 with (fail)
  generalize (w.alloc (.cells #[.int .u8 sv, .int .u16 nu, .int .u16 fl, .int .u8 ho, .int .u8 pr, .int .u32 sr, .int .u32 ds, .slice oa on oc, .slice pa pn pc] 51)).alloc (.cells #[.int .u8 0, .int .i64 0, .int .u8 0, .int .i64 0, .int .u8 0, .int .u8 0, .int .i64 0, .int .i64 0, .int .i64 0, .int .i64 0, .slice none 0 0] 29) = W0 at *
  obtain ⟨x0, x1, x2, x3, x4, x5, x6, x7, x8⟩ := head_cells _ _ _ _ _ _ _ _ _ _ _ _ _ bH
  go_wp2_with (fail)
  refine (KN.out W0).mono ?_
  rintro e w1 ⟨rfl, m1⟩
  replace bH := (m1.block _ (Array.getElem?_eq_some_iff.1 bH).1).trans bH
  replace bR := (m1.block _ (Array.getElem?_eq_some_iff.1 bR).1).trans bR
  replace L0 := L0.trans (m1.mono L0.size)
  clear x0 x1 x2 x3 x4 x5 x6 x7 x8 m1
  go_upto_region 2 with (fail)
  replace bH := blk_al bH (.cells #[.int .u8 d0, .int .i64 d1] 23)
  replace bR := blk_al bR (.cells #[.int .u8 d0, .int .i64 d1] 23)
  have bF := heap_alloc_new w1 (.cells #[.int .u8 d0, .int .i64 d1] 23)
  replace L0 := L0.alloc L0.size (.cells #[.int .u8 d0, .int .i64 d1] 23)
  generalize w1.alloc (.cells #[.int .u8 d0, .int .i64 d1] 23) = W2 at *
  generalize w1.heap.size = aF at *
  obtain ⟨x0, x1, x2, x3, x4, x5, x6, x7, x8⟩ := head_cells _ _ _ _ _ _ _ _ _ _ _ _ _ bH
  go_wp2_with (fail)
  refine (KM.out W2).mono ?_
  rintro e w3 ⟨rfl, m3⟩
  replace bH := (m3.block _ (Array.getElem?_eq_some_iff.1 bH).1).trans bH
  replace bR := (m3.block _ (Array.getElem?_eq_some_iff.1 bR).1).trans bR
  replace bF := (m3.block _ (Array.getElem?_eq_some_iff.1 bF).1).trans bF
  replace L0 := L0.trans (m3.mono L0.size)
  clear x0 x1 x2 x3 x4 x5 x6 x7 x8 m3
  go_upto_region 3 with (fail)
  replace bH := blk_al bH (.cells #[.int .u8 d2, .int .i64 d3] 23)
  replace bR := blk_al bR (.cells #[.int .u8 d2, .int .i64 d3] 23)
  replace bF := blk_al bF (.cells #[.int .u8 d2, .int .i64 d3] 23)
  have bT := heap_alloc_new w3 (.cells #[.int .u8 d2, .int .i64 d3] 23)
  replace L0 := L0.alloc L0.size (.cells #[.int .u8 d2, .int .i64 d3] 23)
  generalize w3.alloc (.cells #[.int .u8 d2, .int .i64 d3] 23) = W4 at *
  generalize w3.heap.size = aT at *
  obtain ⟨x0, x1, x2, x3, x4, x5, x6, x7, x8⟩ := head_cells _ _ _ _ _ _ _ _ _ _ _ _ _ bH
  go_wp2_with (fail)
  refine (KT.out W4 L0).mono ?_
  rintro e w5 ⟨rfl, m5⟩
  replace bH := (m5.block _ (Array.getElem?_eq_some_iff.1 bH).1).trans bH
  replace bR := (m5.block _ (Array.getElem?_eq_some_iff.1 bR).1).trans bR
  replace bF := (m5.block _ (Array.getElem?_eq_some_iff.1 bF).1).trans bF
  replace bT := (m5.block _ (Array.getElem?_eq_some_iff.1 bT).1).trans bT
  replace L0 := L0.trans (m5.mono L0.size)
  clear x0 x1 x2 x3 x4 x5 x6 x7 x8 m5
  go_upto_region 4 with (fail)
  replace bH := blk_al bH (.cells #[.int .u8 f0, .int .u8 f1, .int .i64 f2, .int .i64 f3, .int .i64 f4, .int .i64 f5] 26)
  replace bR := blk_al bR (.cells #[.int .u8 f0, .int .u8 f1, .int .i64 f2, .int .i64 f3, .int .i64 f4, .int .i64 f5] 26)
  replace bF := blk_al bF (.cells #[.int .u8 f0, .int .u8 f1, .int .i64 f2, .int .i64 f3, .int .i64 f4, .int .i64 f5] 26)
  replace bT := blk_al bT (.cells #[.int .u8 f0, .int .u8 f1, .int .i64 f2, .int .i64 f3, .int .i64 f4, .int .i64 f5] 26)
  have bO := heap_alloc_new w5 (.cells #[.int .u8 f0, .int .u8 f1, .int .i64 f2, .int .i64 f3, .int .i64 f4, .int .i64 f5] 26)
  replace L0 := L0.alloc L0.size (.cells #[.int .u8 f0, .int .u8 f1, .int .i64 f2, .int .i64 f3, .int .i64 f4, .int .i64 f5] 26)
  generalize w5.alloc (.cells #[.int .u8 f0, .int .u8 f1, .int .i64 f2, .int .i64 f3, .int .i64 f4, .int .i64 f5] 26) = W6 at *
  generalize w5.heap.size = aO at *
  obtain ⟨x0, x1, x2, x3, x4, x5, x6, x7, x8⟩ := head_cells _ _ _ _ _ _ _ _ _ _ _ _ _ bH
  obtain ⟨p0, p1, p2, p3, p4, p5⟩ := o_cells _ _ _ _ _ _ bO
  obtain ⟨r0, r1⟩ := nod_cells _ _ bF
  obtain ⟨s0, s1⟩ := nod_cells _ _ bT
  obtain ⟨q0, q1, q2, q3, q4, q5, q6, q7, q8, q9, q10⟩ := wr_cells _ _ _ _ _ _ _ _ _ _ _ _ _ bR
  have g0 := wr_frozen bR 0
  have g1 := wr_frozen bR 1
  have g2 := wr_frozen bR 2
  have g3 := wr_frozen bR 3
  have g4 := wr_frozen bR 4
  have g5 := wr_frozen bR 5
  have g6 := wr_frozen bR 6
  have g7 := wr_frozen bR 7
  have g8 := wr_frozen bR 8
  have g9 := wr_frozen bR 9
  have g10 := wr_frozen bR 10
  have HR := Lib.hid bR
  have HL := Lib.hid L0
  clear bH bR bF bT bO L0 KN KM KT
  go_wp2
  refine bodyPost_ret (results_cell_row rfl _ _ (w.heap.size + 1) 29 _ (0, 0) _ rfl (full_setCells HR.out [.int .u8 d0, .int .i64 d1, .int .u8 d2, .int .i64 d3, .int .u8 f0, .int .u8 f1, .int .i64 f2, .int .i64 f3, .int .i64 f4, .int .i64 f5, .slice pa pn pc] rfl) Tryd.underlying29 rfl Tryd.infoWr) rfl ?_
  exact ⟨rfl, below_setCells (w.heap.size + 1) (by omega) [.int .u8 d0, .int .i64 d1, .int .u8 d2, .int .i64 d3, .int .u8 f0, .int .u8 f1, .int .i64 f2, .int .i64 f3, .int .i64 f4, .int .i64 f5, .slice pa pn pc] 0 w _ HL.out⟩
end Go.Proofs.YthenbpnlmpeafaaDoor
