/- Package tuple: Text. -/
import Derived.Test.YtpbheonapgckfaaDoorTupN
namespace Go.Proofs.YtpbheonapgckfaaDoor
open Go.RowKit Go.Shelf
open SumM

theorem endText_any (a p : Int) (ha : 0 ≤ a ∧ a ≤ 4294967295) (hp : 0 ≤ p ∧ p ≤ 65535) (w : World) (hT : Tab w) :
    Calls Tryd.prog 31 #[.int .u32 a, .int .u16 p] w fun e w' => e = .returned (.string (strOfNums (endL a p))) ∧ Below w.heap.size w w' :=
  (callsIn_wide (n := 4)).1 (endText_in 4 (by omega) a p ha hp w hT)

set_option maxRecDepth 100000 in
set_option maxHeartbeats 2000000 in
theorem tText_any (ts td tp tq : Int) (H : UNums ts td tp tq) (w : World) (hT : Tab w) :
    Calls Tryd.prog 19 #[.agg #[.int .u32 ts, .int .u32 td, .int .u16 tp, .int .u16 tq]] w fun e w' => e = .returned (.string (strOfNums (textL ts td tp tq))) ∧ Below w.heap.size w w' := by
  have bH := heap_alloc_new w (.cells #[.int .u32 ts, .int .u32 td, .int .u16 tp, .int .u16 tq] 25)
  have L0 := (Below.refl w.heap.size w).alloc (Nat.le_refl _) (.cells #[.int .u32 ts, .int .u32 td, .int .u16 tp, .int .u16 tq] 25)
  have K1 := Lib.hid (fun W (h : Tab W) => endText_any ts tp H.h1 H.h3 W h)
  have K2 := Lib.hid (fun W (h : Tab W) => endText_any td tq H.h2 H.h4 W h)
  have HS := Lib.hid (show strOfNums (textL ts td tp tq) = strOfNums (endL ts tp) ++ strOfNums [62] ++ strOfNums (endL td tq) by rw [textL, str_append, str_append])
  have f1 : (strOfNums (endL ts tp)).size ≤ 80000 := by rw [strOfNums_size]; exact endL_length _ _ H.h3
  have f2 : (strOfNums (endL td tq)).size ≤ 80000 := by rw [strOfNums_size]; exact endL_length _ _ H.h4
  generalize strOfNums (endL ts tp) = S at *
  generalize strOfNums (endL td tq) = D at *
  have g2 : ¬ 9223372036854775807 < S.size + 1 := by omega
  have g3 : ¬ 9223372036854775807 < S.size + 1 + D.size := by omega
  have G2 : decide (9223372036854775807 < S.size + 1) = false := decide_eq_false g2
  have T0 := hT.step L0 (Nat.le_refl _)
  clear H f1 f2 hT
  go_enter Tryd.func19, Tryd.ntmps19
  go_upto_region 1 with (fail)
  generalize w.alloc (.cells #[.int .u32 ts, .int .u32 td, .int .u16 tp, .int .u16 tq] 25) = W0 at *
  have CS := Lib.hid (fun W (m : Below W0.heap.size W0 W) => tup_cells _ _ _ _ ((m.block _ (Array.getElem?_eq_some_iff.1 bH).1).trans bH))
  have n0 := (Below.refl W0.heap.size W0).drew
  have TD : Tab W0.drew := T0
  have KT := Lib.hid TD
  clear bH T0 TD
  go_region_held3 (fun W => W.cell? ⟨w.heap.size, 0, none⟩ = some (.int .u32 ts) ∧ W.cell? ⟨w.heap.size, 1, none⟩ = some (.int .u32 td) ∧ W.cell? ⟨w.heap.size, 2, none⟩ = some (.int .u16 tp) ∧ W.cell? ⟨w.heap.size, 3, none⟩ = some (.int .u16 tq))
    (first | with_reducible exact CS.out _ n2 | with_reducible exact CS.out _ n1 | with_reducible exact CS.out _ n0)
    (first
      | (go_at_call 31; (with_reducible refine (K1.out W0.drew KT.out).mono ?_); rintro e w1 ⟨rfl, k1⟩; have n1 := n0.trans (k1.mono n0.size))
      | (go_at_call 31; (with_reducible refine (K2.out w1 (KT.out.step k1 (Nat.le_refl _))).mono ?_); rintro e w2 ⟨rfl, k2⟩; have n2 := n1.trans (k2.mono n1.size)))
  go_wp2
  go_ret
  exact ⟨by rw [HS.out]; rfl, L0.trans (n2.mono L0.size)⟩
end Go.Proofs.YtpbheonapgckfaaDoor
