/- Whether two TCP heads are the same: package tcp's answer and the document's; whether bytes are the same, as the law asks. -/
import Derived.Test.YtclofmgnnohhpaaTcpA
namespace Go.Proofs.Ytclofmgnnohhpaa
open Go.RowKit
open SumM

/-- Whether two heads are the same. -/
def tsameB (sp dp tf hd : Int) (ps : List Int) (sp' dp' tf' hd' : Int) (ps' : List Int) : Bool := decide (sp = sp' ∧ dp = dp' ∧ tf = tf' ∧ hd = hd' ∧ ps = ps')
theorem tsame_no {sp dp tf hd sp' dp' tf' hd' : Int} {ps ps' : List Int} (h : ¬ (sp = sp' ∧ dp = dp' ∧ tf = tf' ∧ hd = hd' ∧ ps = ps')) : tsameB sp dp tf hd ps sp' dp' tf' hd' ps' = false := decide_eq_false h
theorem tsame_yes {sp dp tf hd sp' dp' tf' hd' : Int} {ps ps' : List Int} (h0 : sp = sp') (h1 : dp = dp') (h2 : tf = tf') (h3 : hd = hd') : tsameB sp dp tf hd ps sp' dp' tf' hd' ps' = eqB ps ps' := by
  simp [tsameB, eqB, h0, h1, h2, h3]

set_option maxRecDepth 100000 in
set_option maxHeartbeats 4000000 in
theorem tcpSame_any (sp dp tf hd : Int) (da : Option Addr) (dn dc : Nat) (sp' dp' tf' hd' : Int) (da' : Option Addr) (dn' dc' : Nat) (ps ps' : List Int) (B B' : Nat) (w : World) (hB : B ≤ w.heap.size) (hB' : B' ≤ w.heap.size) (hrp : Row .u8 B w da ps) (hpl : ps.length = dn) (hrp' : Row .u8 B' w da' ps') (hpl' : ps'.length = dn') :
    Calls Try.prog 16 #[.agg #[.int .u16 sp, .int .u16 dp, .int .u8 tf, .int .i64 hd, .slice da dn dc], .agg #[.int .u16 sp', .int .u16 dp', .int .u8 tf', .int .i64 hd', .slice da' dn' dc']] w fun e w' => e = .returned (.bool (tsameB sp dp tf hd ps sp' dp' tf' hd' ps')) ∧ Below w.heap.size w w' := by
  have L0 : Below w.heap.size w ((w.alloc (.cells #[.int .u16 sp, .int .u16 dp, .int .u8 tf, .int .i64 hd, .slice da dn dc] 26)).alloc (.cells #[.int .u16 sp', .int .u16 dp', .int .u8 tf', .int .i64 hd', .slice da' dn' dc'] 26)) := ((Below.refl _ w).alloc (Nat.le_refl _) _).alloc (by simp) _
  have R1 := hrp.below (L0.mono hB)
  have R2 := hrp'.below (L0.mono hB')
  have H1 := Lib.hid L0
  clear L0 hrp hrp'
  by_cases e0 : (sp == sp') = true
  rotate_left
  · have f0 : (sp == sp') = false := by simpa using e0
    have HS := Lib.hid (tsame_no (ps := ps) (ps' := ps') (show ¬ (sp = sp' ∧ dp = dp' ∧ tf = tf' ∧ hd = hd' ∧ ps = ps') from fun h => e0 (by simpa using h.1)))
    clear R1 R2
    go_enter Try.func16, Try.ntmps16
    go_wp2
    go_ret
    exact ⟨ret_bool HS.out.symm, H1.out⟩
  by_cases e1 : (dp == dp') = true
  rotate_left
  · have f1 : (dp == dp') = false := by simpa using e1
    have HS := Lib.hid (tsame_no (ps := ps) (ps' := ps') (show ¬ (sp = sp' ∧ dp = dp' ∧ tf = tf' ∧ hd = hd' ∧ ps = ps') from fun h => e1 (by simpa using h.2.1)))
    clear R1 R2
    go_enter Try.func16, Try.ntmps16
    go_wp2
    go_ret
    exact ⟨ret_bool HS.out.symm, H1.out⟩
  by_cases e2 : (tf == tf') = true
  rotate_left
  · have f2 : (tf == tf') = false := by simpa using e2
    have HS := Lib.hid (tsame_no (ps := ps) (ps' := ps') (show ¬ (sp = sp' ∧ dp = dp' ∧ tf = tf' ∧ hd = hd' ∧ ps = ps') from fun h => e2 (by simpa using h.2.2.1)))
    clear R1 R2
    go_enter Try.func16, Try.ntmps16
    go_wp2
    go_ret
    exact ⟨ret_bool HS.out.symm, H1.out⟩
  by_cases e3 : (hd == hd') = true
  rotate_left
  · have f3 : (hd == hd') = false := by simpa using e3
    have HS := Lib.hid (tsame_no (ps := ps) (ps' := ps') (show ¬ (sp = sp' ∧ dp = dp' ∧ tf = tf' ∧ hd = hd' ∧ ps = ps') from fun h => e3 (by simpa using h.2.2.2.1)))
    clear R1 R2
    go_enter Try.func16, Try.ntmps16
    go_wp2
    go_ret
    exact ⟨ret_bool HS.out.symm, H1.out⟩
  have HS := Lib.hid (tsame_yes (ps := ps) (ps' := ps') (show sp = sp' by simpa using e0) (show dp = dp' by simpa using e1) (show tf = tf' by simpa using e2) (show hd = hd' by simpa using e3))
  have HE := Lib.hid (equal_any da dn dc ps da' dn' dc' ps' B B' _ R1 hpl R2 hpl')
  clear R1 R2 hpl hpl'
  go_enter Try.func16, Try.ntmps16
  go_wp2_with (go_at_call 30; refine HE.out.mono ?_; rintro e w1 ⟨rfl, rfl⟩)
  go_ret
  exact ⟨ret_bool HS.out.symm, H1.out⟩

set_option maxRecDepth 100000 in
set_option maxHeartbeats 4000000 in
theorem refTcpSame_any (sp dp tf hd : Int) (da : Option Addr) (dn dc : Nat) (sp' dp' tf' hd' : Int) (da' : Option Addr) (dn' dc' : Nat) (ps ps' : List Int) (B B' : Nat) (w : World) (hB : B ≤ w.heap.size) (hB' : B' ≤ w.heap.size) (hrp : Row .u8 B w da ps) (hpl : ps.length = dn) (hrp' : Row .u8 B' w da' ps') (hpl' : ps'.length = dn') :
    Calls Try.prog 12 #[.agg #[.int .u16 sp, .int .u16 dp, .int .u8 tf, .int .i64 hd, .slice da dn dc], .agg #[.int .u16 sp', .int .u16 dp', .int .u8 tf', .int .i64 hd', .slice da' dn' dc']] w fun e w' => e = .returned (.bool (tsameB sp dp tf hd ps sp' dp' tf' hd' ps')) ∧ Below w.heap.size w w' := by
  have L0 : Below w.heap.size w ((w.alloc (.cells #[.int .u16 sp, .int .u16 dp, .int .u8 tf, .int .i64 hd, .slice da dn dc] 26)).alloc (.cells #[.int .u16 sp', .int .u16 dp', .int .u8 tf', .int .i64 hd', .slice da' dn' dc'] 26)) := ((Below.refl _ w).alloc (Nat.le_refl _) _).alloc (by simp) _
  have R1 := hrp.below (L0.mono hB)
  have R2 := hrp'.below (L0.mono hB')
  have H1 := Lib.hid L0
  clear L0 hrp hrp'
  by_cases e0 : (sp == sp') = true
  rotate_left
  · have f0 : (sp == sp') = false := by simpa using e0
    have HS := Lib.hid (tsame_no (ps := ps) (ps' := ps') (show ¬ (sp = sp' ∧ dp = dp' ∧ tf = tf' ∧ hd = hd' ∧ ps = ps') from fun h => e0 (by simpa using h.1)))
    clear R1 R2
    go_enter Try.func12, Try.ntmps12
    go_wp2
    go_ret
    exact ⟨ret_bool HS.out.symm, H1.out⟩
  by_cases e1 : (dp == dp') = true
  rotate_left
  · have f1 : (dp == dp') = false := by simpa using e1
    have HS := Lib.hid (tsame_no (ps := ps) (ps' := ps') (show ¬ (sp = sp' ∧ dp = dp' ∧ tf = tf' ∧ hd = hd' ∧ ps = ps') from fun h => e1 (by simpa using h.2.1)))
    clear R1 R2
    go_enter Try.func12, Try.ntmps12
    go_wp2
    go_ret
    exact ⟨ret_bool HS.out.symm, H1.out⟩
  by_cases e2 : (tf == tf') = true
  rotate_left
  · have f2 : (tf == tf') = false := by simpa using e2
    have HS := Lib.hid (tsame_no (ps := ps) (ps' := ps') (show ¬ (sp = sp' ∧ dp = dp' ∧ tf = tf' ∧ hd = hd' ∧ ps = ps') from fun h => e2 (by simpa using h.2.2.1)))
    clear R1 R2
    go_enter Try.func12, Try.ntmps12
    go_wp2
    go_ret
    exact ⟨ret_bool HS.out.symm, H1.out⟩
  by_cases e3 : (hd == hd') = true
  rotate_left
  · have f3 : (hd == hd') = false := by simpa using e3
    have HS := Lib.hid (tsame_no (ps := ps) (ps' := ps') (show ¬ (sp = sp' ∧ dp = dp' ∧ tf = tf' ∧ hd = hd' ∧ ps = ps') from fun h => e3 (by simpa using h.2.2.2.1)))
    clear R1 R2
    go_enter Try.func12, Try.ntmps12
    go_wp2
    go_ret
    exact ⟨ret_bool HS.out.symm, H1.out⟩
  have HS := Lib.hid (tsame_yes (ps := ps) (ps' := ps') (show sp = sp' by simpa using e0) (show dp = dp' by simpa using e1) (show tf = tf' by simpa using e2) (show hd = hd' by simpa using e3))
  have e4 := R1.str dn dc hpl
  have e5 := R2.str dn' dc' hpl'
  have HE := Lib.hid (str_eq (row_in R1) (row_in R2))
  clear R1 R2 hpl hpl'
  go_enter Try.func12, Try.ntmps12
  go_wp2
  go_ret
  exact ⟨ret_bool (HE.out.trans HS.out.symm), H1.out⟩

set_option maxRecDepth 100000 in
theorem lawSame_any (a : Option Addr) (n c : Nat) (zs : List Int) (a' : Option Addr) (n' c' : Nat) (ys : List Int) (B B' : Nat) (w : World) (h : Row .u8 B w a zs) (hl : zs.length = n) (h' : Row .u8 B' w a' ys) (hl' : ys.length = n') :
    Calls Try.prog 13 #[.slice a n c, .slice a' n' c'] w fun e w' => e = .returned (.bool (eqB zs ys)) ∧ w = w' := by
  have e1 := h.str n c hl
  have e2 := h'.str n' c' hl'
  have HE := Lib.hid (str_eq (row_in h) (row_in h'))
  clear h h' hl hl'
  go_enter Try.func13, Try.ntmps13
  go_wp2
  go_ret
  exact ⟨ret_bool HE.out, rfl⟩
end Go.Proofs.Ytclofmgnnohhpaa
