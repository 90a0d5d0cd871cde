/- SheetOnly, walked. -/
import Derived.Test.YtiaikacfdbcmmaaShW
import Derived.Test.YtiaikacfdbcmmaaShX
import Derived.Test.YtiaikacfdbcmmaaShC
import Derived.Deep.RegionHeldLaw
namespace Go.Proofs.Ytiaikacfdbcmmaa
open Go.RowKit Go.Shelf
open SumM
attribute [local go_sem] Oper.semAt_some

set_option maxRecDepth 100000 in
set_option maxHeartbeats 16000000 in
theorem shOnly_walk (a0 : Option Addr) (len0 cap0 : Nat) (z0 : List Int) (w : World) (w0 : IsRow .u8 w a0 len0 cap0 z0) :
    Calls Try.prog 5 #[.slice a0 len0 cap0] w fun e w' => e = .returned (.bool true) ∧ Below w.heap.size w w' := by
  obtain ⟨hrz, hzl, _, hlz, hmz⟩ := w0.row
  generalize z0.take len0 = bs at *
  have HI := Lib.hid (row_in hrz)
  have HL := Lib.hid hzl
  have RB := Lib.hid (fun W (m : Below w.heap.size w W) => (hrz.below m).more m.size)
  have WKS := Lib.hid (fun W => wakes_any W)
  have H0 := Lib.hid (Below.refl w.heap.size w)
  clear w0 hmz
  by_cases hbig : 1000 < len0
  · have p1 : decide ((1000 : Int) < (len0 : Int)) = true := decide_eq_true (by omega)
    clear hbig hlz hrz hzl
    go_enter Try.func5, Try.ntmps5
    go_wp2_with (go_at_call 9; (with_reducible refine (WKS.out _).mono ?_); rintro e w9 ⟨rfl, m9⟩)
    go_ret
    exact ⟨rfl, m9⟩
  have p1 : decide ((1000 : Int) < (len0 : Int)) = false := decide_eq_false (by omega)
  obtain ⟨⟨x, y, rs, z⟩, hq⟩ : ∃ r, tkS bs = r := ⟨_, rfl⟩
  have KT := Lib.hid (hq ▸ sTake_any a0 len0 cap0 bs hzl hlz (by omega) w hrz)
  have HQ := Lib.hid hq
  have HB := Lib.hid (show len0 ≤ 1000 by omega)
  clear hbig hlz hrz hzl hq
  generalize hnn : rs.length = n0 at *
  have HN := Lib.hid hnn
  clear hnn
  go_enter Try.func5, Try.ntmps5
  go_wp2_with fail
  refine KT.out.mono ?_
  rintro e w1 hr
  obtain ⟨S1, c1, rfl, hc0, hc1, O1, m1⟩ := hr.slice HN.out
  have HC1 := Lib.hid (And.intro hc0 hc1)
  have HW := Lib.hid (show Below w.heap.size w (w1.alloc (.cells #[.int .i64 x, .int .i64 y, .slice S1 n0 c1] 29)) ∧ (w1.alloc (.cells #[.int .i64 x, .int .i64 y, .slice S1 n0 c1] 29)).heap[w1.heap.size]? = some (.cells #[.int .i64 x, .int .i64 y, .slice S1 n0 c1] 29 (0, 0)) ∧ (w1.alloc (.cells #[.int .i64 x, .int .i64 y, .slice S1 n0 c1] 29)).ownsRow w.heap.size 48 5 (.slice S1 n0 c1) n0 (flatS rowC rs) from
    ⟨m1.alloc m1.size _, heap_alloc_new w1 _, ownS_below O1 ((Below.refl w1.heap.size w1).alloc (Nat.le_refl _) _)⟩)
  clear m1 O1 hc0 hc1 KT
  have zz := heap_alloc_new w1 (.cells #[.int .i64 0, .int .i64 0, .slice none 0 0] 29)
  obtain ⟨z0, z1, z2⟩ := sh_cells _ _ _ _ _ zz
  have f0 := sh_frozen zz 0
  have f1 := sh_frozen zz 1
  have f2 := sh_frozen zz 2
  clear zz
  go_upto_region 4 with fail
  clear z0 z1 z2 f0 f1 f2
  generalize w1.alloc (.cells #[.int .i64 x, .int .i64 y, .slice S1 n0 c1] 29) = W1 at *
  generalize w1.heap.size = b3 at *
  by_cases hz : z = 0
  · subst hz
    obtain ⟨hok, hput⟩ := tk_put HI.out HQ.out
    have hn16 := (shOk_iff hok).2.2.1
    have KP := Lib.hid (sPut_any x y S1 n0 c1 rs HN.out (by have := HN.out; omega) W1 (SRow.of_own rowC_len (by decide) HW.out.2.2))
    have hsp : spB x y rs = bs ∧ spE x y rs = 0 := by
      unfold spB spE
      rw [if_pos hok, if_pos hok]
      exact ⟨hput, rfl⟩
    have HSP := Lib.hid hsp
    have HOK := Lib.hid (And.intro hok hn16)
    clear hok hput hn16 hsp
    obtain ⟨q0, q1, q2⟩ := sh_cells _ _ _ _ _ HW.out.2.1
    go_wp2_with fail
    refine KP.out.mono ?_
    rintro e w2 ⟨v, rfl, O2, m2⟩
    rw [HSP.out.1, HL.out] at O2
    rw [HSP.out.2]
    obtain ⟨P, cp, rfl, hc0, hc1, hc2⟩ := ownS_slice O2
    have L2 := HW.out.1.trans (m2.mono HW.out.1.size)
    have H2 := Lib.hid (And.intro L2 (And.intro (bb HW.out.2.1 m2) (And.intro (ownS_below HW.out.2.2 m2) (Row.of_own O2 (in_wf8 HI.out)))))
    have KS := Lib.hid (law11Same_any a0 len0 cap0 bs P len0 cp bs w2.heap.size w2.heap.size w2 (RB.out w2 L2) HL.out H2.out.2.2.2 HL.out)
    have hE : eqB bs bs = true := eqB_true.2 rfl
    rw [hE] at KS
    have KR := Lib.hid (r11Right_any x y S1 n0 c1 rs HN.out (by have := HN.out; have := HOK.out; omega) w2 (SRow.of_own rowC_len (by decide) H2.out.2.2.1))
    rw [HOK.out.1] at KR
    clear q0 q1 q2 O2 m2 hc0 hc1 hc2 L2 hE KP
    obtain ⟨q0, q1, q2⟩ := sh_cells _ _ _ _ _ H2.out.2.1
    go_wp2_with (first
      | (go_at_call 19; (with_reducible refine KS.out.mono ?_); rintro e w8 ⟨rfl, rfl⟩)
      | (go_at_call 21; (with_reducible refine KR.out.mono ?_); rintro e w3 ⟨rfl, m3⟩)
      | (go_at_call 9; (with_reducible refine (WKS.out _).mono ?_); rintro e w9 ⟨rfl, m9⟩))
    go_ret
    exact ⟨rfl, H2.out.1.trans ((m3.trans (m9.mono m3.size)).mono H2.out.1.size)⟩
  · have hz1 : (z == 0) = false := by simpa using hz
    have herr := tk_err (bs := bs) (by rw [HQ.out]; exact hz)
    rw [HQ.out] at herr
    have hcases : ∃ sh : Bool, x = 0 ∧ y = 0 ∧ rs = [] ∧ z = (if sh then 61 else 60) ∧ (sh = true ↔ (bs.length < 13 ∨ bs.length < 13 + 13 * (hv bs 2).toNat)) := by
      rcases herr with ⟨e, h⟩ | ⟨e, h1, h2⟩
      · simp only [Prod.mk.injEq] at e
        exact ⟨true, e.1, e.2.1, e.2.2.1, e.2.2.2, by simpa using h⟩
      · simp only [Prod.mk.injEq] at e
        exact ⟨false, e.1, e.2.1, e.2.2.1, e.2.2.2, by simp; omega⟩
    obtain ⟨sh, rfl, rfl, rfl, rfl, hsh⟩ := hcases
    have hn0 : n0 = 0 := by have := HN.out; simpa using this.symm
    subst hn0
    have KS := Lib.hid (r11Same_any 0 0 S1 0 c1 0 0 none 0 0 [] [] rfl (by omega) rfl (by omega) W1 (SRow.nil _ _ _ _ _) (SRow.nil _ _ _ _ _))
    rw [show smS 0 0 [] 0 0 [] = true from rfl] at KS
    have HSH := Lib.hid hsh
    clear hsh herr hz
    obtain ⟨q0, q1, q2⟩ := sh_cells _ _ _ _ _ HW.out.2.1
    by_cases h13 : len0 < 13
    · have p2 : decide ((len0 : Int) < 13) = true := decide_eq_true (by omega)
      obtain rfl : sh = true := HSH.out.2 (.inl (by rw [HL.out]; exact h13))
      simp only [if_true] at hz1 ⊢
      go_wp2_with (first
        | (go_at_call 18; (with_reducible refine KS.out.mono ?_); rintro e w3 ⟨rfl, m3⟩)
        | (go_at_call 9; (with_reducible refine (WKS.out _).mono ?_); rintro e w9 ⟨rfl, m9⟩))
      go_ret
      exact ⟨rfl, HW.out.1.trans ((m3.trans (m9.mono m3.size)).mono HW.out.1.size)⟩
    · have p2 : decide ((len0 : Int) < 13) = false := decide_eq_false (by omega)
      have hR := RB.out W1 HW.out.1
      obtain ⟨ba, oa, rfl, _, hcl⟩ := hR.2 (by rw [HL.out]; omega)
      have hcx := hcl 12 (by rw [HL.out]; omega)
      have hvv := hv2 (bs := bs) (by rw [HL.out]; omega)
      have hv8 := getD_in HI.out (by decide) 12
      generalize bs[12]?.getD 0 = X at *
      have h12 : (12 : Int) < (len0 : Int) := by omega
      have HV := Lib.hid (And.intro hvv hv8)
      have hw1 : IntKind.i64.wrap X = X := IntWalk.i64_in _ (by omega)
      have hw2 : IntKind.i64.wrap (13 * X) = 13 * X := IntWalk.i64_in _ (by omega)
      have hw3 : IntKind.i64.wrap (13 + 13 * X) = 13 + 13 * X := IntWalk.i64_in _ (by omega)
      cases sh
      · have p3 : decide ((len0 : Int) < 13 + 13 * X) = false := by
          refine decide_eq_false fun h => ?_
          have := HSH.out.2 (.inr (by rw [HL.out, HV.out.1]; omega))
          cases this
        clear hcl hvv hR HSH
        simp only [Bool.false_eq_true, if_false] at hz1 ⊢
        go_wp2_with (first
          | (go_at_call 18; (with_reducible refine KS.out.mono ?_); rintro e w3 ⟨rfl, m3⟩)
          | (go_at_call 9; (with_reducible refine (WKS.out _).mono ?_); rintro e w9 ⟨rfl, m9⟩))
        go_ret
        exact ⟨rfl, HW.out.1.trans ((m3.trans (m9.mono m3.size)).mono HW.out.1.size)⟩
      · have p3 : decide ((len0 : Int) < 13 + 13 * X) = true := by
          refine decide_eq_true ?_
          have := HSH.out.1 rfl
          rw [HL.out, HV.out.1] at this
          omega
        clear hcl hvv hR HSH
        simp only [if_true] at hz1 ⊢
        go_wp2_with (first
          | (go_at_call 18; (with_reducible refine KS.out.mono ?_); rintro e w3 ⟨rfl, m3⟩)
          | (go_at_call 9; (with_reducible refine (WKS.out _).mono ?_); rintro e w9 ⟨rfl, m9⟩))
        go_ret
        exact ⟨rfl, HW.out.1.trans ((m3.trans (m9.mono m3.size)).mono HW.out.1.size)⟩
end Go.Proofs.Ytiaikacfdbcmmaa
