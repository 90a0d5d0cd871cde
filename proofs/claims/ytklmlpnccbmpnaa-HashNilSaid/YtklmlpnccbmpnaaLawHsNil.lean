/- 'handfastlaw08.HashNil' returns true at all tuples that came in, and leaves what lay as it lay. -/
import Derived.Test.YtklmlpnccbmpnaaHsW
namespace Go.Proofs.Ytklmlpnccbmpnaa
open Go.RowKit Go.Shelf
open SumM

set_option maxRecDepth 100000 in
set_option maxHeartbeats 16000000 in
theorem hNil_walk (a0 : Option Addr) (len0 cap0 : Nat) (us : List Tup) (ts td tp tq : Int) (w : World) (w0 : IsTRow w a0 len0 cap0 us) (_ : UNums ts td tp tq) :
    Calls Try.prog 8 #[.slice a0 len0 cap0, .agg #[.int .u32 ts, .int .u32 td, .int .u16 tp, .int .u16 tq]] w fun e w' => e = .returned (.bool true) ∧ Below w.heap.size w w' := by
  obtain ⟨hR, hl, _, hlc, hmc⟩ := w0
  unfold maxLen at hmc
  have bU := heap_alloc_new w (.cells #[.int .u32 ts, .int .u32 td, .int .u16 tp, .int .u16 tq] 26)
  have L0 := (Below.refl w.heap.size w).alloc (Nat.le_refl _) (.cells #[.int .u32 ts, .int .u32 td, .int .u16 tp, .int .u16 tq] 26)
  obtain ⟨q0, q1, q2, q3⟩ := tup_cells _ _ _ _ bU
  have TW := Lib.hid (fun W => hwakes_any W)
  clear hR hl
  by_cases hbig : 40 < len0
  · have p1 : decide ((40 : Int) < (len0 : Int)) = true := decide_eq_true (by omega)
    clear bU
    go_enter Try.func8, Try.ntmps8
    go_upto_region 1 with (fail)
    generalize (w.alloc (.cells #[.int .u32 ts, .int .u32 td, .int .u16 tp, .int .u16 tq] 26)) = W0 at *
    go_wp2_with (go_at_call 9; (with_reducible refine (TW.out _).mono ?_); rintro e w3 ⟨rfl, m3⟩)
    go_ret
    exact ⟨rfl, L0.trans (m3.mono L0.size)⟩
  have p1 : decide ((40 : Int) < (len0 : Int)) = false := decide_eq_false (by omega)
  clear hbig
  go_enter Try.func8, Try.ntmps8
  go_upto_region 1 with (fail)
  generalize w.alloc (.cells #[.int .u32 ts, .int .u32 td, .int .u16 tp, .int .u16 tq] 26) = W0 at *
  clear bU
  go_wp2_with (fail)
  refine (hnOf_any ts td tp tq W0).mono ?_
  rintro e v1 ⟨rfl, j1⟩
  have n1 := L0.trans (j1.mono L0.size)
  clear q0 q1 q2 q3
  go_wp2_with (fail)
  refine (hnMade_any v1).mono ?_
  rintro e v2 ⟨rfl, j2⟩
  have n2 := n1.trans (j2.mono n1.size)
  go_wp2_with (fail)
  refine (hnAll_any _ v2).mono ?_
  rintro e v3 ⟨A, c, rfl, j3⟩
  have n3 := n2.trans (j3.mono n2.size)
  go_wp2_with (fail)
  refine (TW.out v3).mono ?_
  rintro e v4 ⟨rfl, j4⟩
  have n4 := n3.trans (j4.mono n3.size)
  go_wp2
  go_ret
  exact ⟨rfl, n4⟩
end Go.Proofs.Ytklmlpnccbmpnaa
