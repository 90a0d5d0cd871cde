/- Whether two heads are the same, by the document. -/
import Derived.Test.YtjofijigfkkidaaDoorIpE
namespace Go.Proofs.YtjofijigfkkidaaDoor
open Go.RowKit
open SumM

set_option maxRecDepth 100000 in
set_option maxHeartbeats 8000000 in
theorem refSame_any (sv nu fl ho pr sr ds : Int) (oa : Option Addr) (on oc : Nat) (pa : Option Addr) (pn pc : Nat) (sv' nu' fl' ho' pr' sr' ds' : Int) (oa' : Option Addr) (on' oc' : Nat) (pa' : Option Addr) (pn' pc' : Nat) (os ps os' ps' : List Int) (B B' : Nat) (w : World) (hB : B ≤ w.heap.size) (hB' : B' ≤ w.heap.size) (hro : Row .u8 B w oa os) (hol : os.length = on) (hrp : Row .u8 B w pa ps) (hpl : ps.length = pn)
    (hro' : Row .u8 B' w oa' os') (hol' : os'.length = on') (hrp' : Row .u8 B' w pa' ps') (hpl' : ps'.length = pn') :
    Calls Tryd.prog 18 #[.agg #[.int .u8 sv, .int .u16 nu, .int .u16 fl, .int .u8 ho, .int .u8 pr, .int .u32 sr, .int .u32 ds, .slice oa on oc, .slice pa pn pc], .agg #[.int .u8 sv', .int .u16 nu', .int .u16 fl', .int .u8 ho', .int .u8 pr', .int .u32 sr', .int .u32 ds', .slice oa' on' oc', .slice pa' pn' pc']] w fun e w' => e = .returned (.bool (sameB sv nu fl ho pr sr ds os ps sv' nu' fl' ho' pr' sr' ds' os' ps')) ∧ Below w.heap.size w w' := by
  have L0 : Below w.heap.size w ((w.alloc (.cells #[.int .u8 sv, .int .u16 nu, .int .u16 fl, .int .u8 ho, .int .u8 pr, .int .u32 sr, .int .u32 ds, .slice oa on oc, .slice pa pn pc] 26)).alloc (.cells #[.int .u8 sv', .int .u16 nu', .int .u16 fl', .int .u8 ho', .int .u8 pr', .int .u32 sr', .int .u32 ds', .slice oa' on' oc', .slice pa' pn' pc'] 26)) := ((Below.refl _ w).alloc (Nat.le_refl _) _).alloc (by simp) _
  have R1 := hro.below (L0.mono hB)
  have R2 := hrp.below (L0.mono hB)
  have R1' := hro'.below (L0.mono hB')
  have R2' := hrp'.below (L0.mono hB')
  have H1 := Lib.hid L0
  clear L0 hro hrp hro' hrp'
  by_cases e0 : (sv == sv') = true
  rotate_left
  · have f0 : (sv == sv') = false := by simpa using e0
    have HS := Lib.hid (same_no (os := os) (ps := ps) (os' := os') (ps' := ps') (show ¬ (sv = sv' ∧ nu = nu' ∧ fl = fl' ∧ ho = ho' ∧ pr = pr' ∧ sr = sr' ∧ ds = ds' ∧ os = os' ∧ ps = ps') from fun h => e0 (by simpa using h.1)))
    go_enter Tryd.func18, Tryd.ntmps18
    go_wp2
    go_ret
    exact ⟨ret_bool HS.out.symm, H1.out⟩
  by_cases e1 : (nu == nu') = true
  rotate_left
  · have f1 : (nu == nu') = false := by simpa using e1
    have HS := Lib.hid (same_no (os := os) (ps := ps) (os' := os') (ps' := ps') (show ¬ (sv = sv' ∧ nu = nu' ∧ fl = fl' ∧ ho = ho' ∧ pr = pr' ∧ sr = sr' ∧ ds = ds' ∧ os = os' ∧ ps = ps') from fun h => e1 (by simpa using h.2.1)))
    go_enter Tryd.func18, Tryd.ntmps18
    go_wp2
    go_ret
    exact ⟨ret_bool HS.out.symm, H1.out⟩
  by_cases e2 : (fl == fl') = true
  rotate_left
  · have f2 : (fl == fl') = false := by simpa using e2
    have HS := Lib.hid (same_no (os := os) (ps := ps) (os' := os') (ps' := ps') (show ¬ (sv = sv' ∧ nu = nu' ∧ fl = fl' ∧ ho = ho' ∧ pr = pr' ∧ sr = sr' ∧ ds = ds' ∧ os = os' ∧ ps = ps') from fun h => e2 (by simpa using h.2.2.1)))
    go_enter Tryd.func18, Tryd.ntmps18
    go_wp2
    go_ret
    exact ⟨ret_bool HS.out.symm, H1.out⟩
  by_cases e3 : (ho == ho') = true
  rotate_left
  · have f3 : (ho == ho') = false := by simpa using e3
    have HS := Lib.hid (same_no (os := os) (ps := ps) (os' := os') (ps' := ps') (show ¬ (sv = sv' ∧ nu = nu' ∧ fl = fl' ∧ ho = ho' ∧ pr = pr' ∧ sr = sr' ∧ ds = ds' ∧ os = os' ∧ ps = ps') from fun h => e3 (by simpa using h.2.2.2.1)))
    go_enter Tryd.func18, Tryd.ntmps18
    go_wp2
    go_ret
    exact ⟨ret_bool HS.out.symm, H1.out⟩
  by_cases e4 : (pr == pr') = true
  rotate_left
  · have f4 : (pr == pr') = false := by simpa using e4
    have HS := Lib.hid (same_no (os := os) (ps := ps) (os' := os') (ps' := ps') (show ¬ (sv = sv' ∧ nu = nu' ∧ fl = fl' ∧ ho = ho' ∧ pr = pr' ∧ sr = sr' ∧ ds = ds' ∧ os = os' ∧ ps = ps') from fun h => e4 (by simpa using h.2.2.2.2.1)))
    go_enter Tryd.func18, Tryd.ntmps18
    go_wp2
    go_ret
    exact ⟨ret_bool HS.out.symm, H1.out⟩
  by_cases e5 : (sr == sr') = true
  rotate_left
  · have f5 : (sr == sr') = false := by simpa using e5
    have HS := Lib.hid (same_no (os := os) (ps := ps) (os' := os') (ps' := ps') (show ¬ (sv = sv' ∧ nu = nu' ∧ fl = fl' ∧ ho = ho' ∧ pr = pr' ∧ sr = sr' ∧ ds = ds' ∧ os = os' ∧ ps = ps') from fun h => e5 (by simpa using h.2.2.2.2.2.1)))
    go_enter Tryd.func18, Tryd.ntmps18
    go_wp2
    go_ret
    exact ⟨ret_bool HS.out.symm, H1.out⟩
  by_cases e6 : (ds == ds') = true
  rotate_left
  · have f6 : (ds == ds') = false := by simpa using e6
    have HS := Lib.hid (same_no (os := os) (ps := ps) (os' := os') (ps' := ps') (show ¬ (sv = sv' ∧ nu = nu' ∧ fl = fl' ∧ ho = ho' ∧ pr = pr' ∧ sr = sr' ∧ ds = ds' ∧ os = os' ∧ ps = ps') from fun h => e6 (by simpa using h.2.2.2.2.2.2.1)))
    go_enter Tryd.func18, Tryd.ntmps18
    go_wp2
    go_ret
    exact ⟨ret_bool HS.out.symm, H1.out⟩
  by_cases e7 : eqB os os' = true
  rotate_left
  · have f7 : eqB os os' = false := by simpa using e7
    have HS := Lib.hid (same_no (show ¬ (sv = sv' ∧ nu = nu' ∧ fl = fl' ∧ ho = ho' ∧ pr = pr' ∧ sr = sr' ∧ ds = ds' ∧ os = os' ∧ ps = ps') from fun h => e7 (eqB_true.2 h.2.2.2.2.2.2.2.1)))
    have x1 := R1.str _ oc hol
    have x2 := R1'.str _ oc' hol'
    have x3 := R2.str _ pc hpl
    have x4 := R2'.str _ pc' hpl'
    have y1 := str_eq (row_in R1) (row_in R1')
    have y2 := str_eq (row_in R2) (row_in R2')
    rw [f7] at y1
    clear R1 R2 R1' R2'
    generalize strOfNums os = S1 at x1 y1
    generalize strOfNums os' = S2 at x2 y1
    generalize strOfNums ps = S3 at x3 y2
    generalize strOfNums ps' = S4 at x4 y2
    go_enter Tryd.func18, Tryd.ntmps18
    go_wp2
    go_ret
    exact ⟨ret_bool HS.out.symm, H1.out⟩
  have HS := Lib.hid (same_yes (ps := ps) (ps' := ps') (by simpa using e0) (by simpa using e1) (by simpa using e2) (by simpa using e3) (by simpa using e4) (by simpa using e5) (by simpa using e6) (eqB_true.1 e7))
  have x1 := R1.str _ oc hol
  have x2 := R1'.str _ oc' hol'
  have x3 := R2.str _ pc hpl
  have x4 := R2'.str _ pc' hpl'
  have y1 := str_eq (row_in R1) (row_in R1')
  have y2 := str_eq (row_in R2) (row_in R2')
  rw [e7] at y1
  clear R1 R2 R1' R2'
  generalize strOfNums os = S1 at x1 y1
  generalize strOfNums os' = S2 at x2 y1
  generalize strOfNums ps = S3 at x3 y2
  generalize strOfNums ps' = S4 at x4 y2
  go_enter Tryd.func18, Tryd.ntmps18
  go_wp2
  go_ret
  exact ⟨ret_bool HS.out.symm, H1.out⟩
end Go.Proofs.YtjofijigfkkidaaDoor
