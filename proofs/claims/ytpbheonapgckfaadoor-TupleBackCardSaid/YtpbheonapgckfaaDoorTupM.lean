/- Package tuple: Cmp. -/
import Derived.Test.YtpbheonapgckfaaDoorTupL
namespace Go.Proofs.YtpbheonapgckfaaDoor
open Go.RowKit Go.Shelf
open SumM

set_option maxRecDepth 100000 in
set_option maxHeartbeats 4000000 in
theorem tCmp_d (ts td tp tq : Int) (ts' td' tp' tq' : Int) (H : UNums ts td tp tq) (H' : UNums ts' td' tp' tq') (w : World) :
    Calls Tryd.prog 13 #[.agg #[.int .u32 ts, .int .u32 td, .int .u16 tp, .int .u16 tq], .agg #[.int .u32 ts', .int .u32 td', .int .u16 tp', .int .u16 tq']] w fun e w' => e = .returned (.int .i64 (cmpU ts td tp tq ts' td' tp' tq')) ∧ Below w.heap.size w w' ∧ w'.drawn = w.drawn := by
  have L0 := ((Below.refl w.heap.size w).alloc (Nat.le_refl _) (.cells #[.int .u32 ts, .int .u32 td, .int .u16 tp, .int .u16 tq] 25)).alloc (by simp) (.cells #[.int .u32 ts', .int .u32 td', .int .u16 tp', .int .u16 tq'] 25)
  have dr : ((w.alloc (.cells #[.int .u32 ts, .int .u32 td, .int .u16 tp, .int .u16 tq] 25)).alloc (.cells #[.int .u32 ts', .int .u32 td', .int .u16 tp', .int .u16 tq'] 25)).drawn = w.drawn := rfl
  have bO := heap_alloc_new (w.alloc (.cells #[.int .u32 ts, .int .u32 td, .int .u16 tp, .int .u16 tq] 25)) (.cells #[.int .u32 ts', .int .u32 td', .int .u16 tp', .int .u16 tq'] 25)
  rw [World.size_alloc] at bO
  have bH := (Below.heap_alloc (w.alloc (.cells #[.int .u32 ts, .int .u32 td, .int .u16 tp, .int .u16 tq] 25)) (.cells #[.int .u32 ts', .int .u32 td', .int .u16 tp', .int .u16 tq'] 25) w.heap.size (by simp)).trans (heap_alloc_new w (.cells #[.int .u32 ts, .int .u32 td, .int .u16 tp, .int .u16 tq] 25))
  obtain ⟨q0, q1, q2, q3⟩ := tup_cells _ _ _ _ bH
  obtain ⟨z0, z1, z2, z3⟩ := tup_cells _ _ _ _ bO
  have HC := Lib.hid (And.intro (cmpU_zero H H') (show cmpU ts td tp tq ts' td' tp' tq' = -1 ∨ cmpU ts td tp tq ts' td' tp' tq' = 0 ∨ cmpU ts td tp tq ts' td' tp' tq' = 1 from cmpL_in _ _))
  have K := Lib.hid (fun W => tLess_d ts td tp tq ts' td' tp' tq' H H' W)
  clear H H' bH bO
  have hcase : (ts = ts' ∧ td = td' ∧ tp = tp' ∧ tq = tq') ∨ (ts = ts' ∧ td = td' ∧ tp = tp' ∧ tq ≠ tq') ∨ (ts = ts' ∧ td = td' ∧ tp ≠ tp') ∨ (ts = ts' ∧ td ≠ td') ∨ ts ≠ ts' := by omega
  rcases hcase with ⟨rfl, rfl, rfl, rfl⟩ | ⟨rfl, rfl, rfl, e⟩ | ⟨rfl, rfl, e⟩ | ⟨rfl, e⟩ | e
  · have h0 := HC.out.1.2 ⟨rfl, rfl, rfl, rfl⟩
    rw [h0]
    go_enter Tryd.func13, Tryd.ntmps13
    go_upto_region 1 with (fail)
    generalize (w.alloc (.cells #[.int .u32 ts, .int .u32 td, .int .u16 tp, .int .u16 tq] 25)).alloc (.cells #[.int .u32 ts, .int .u32 td, .int .u16 tp, .int .u16 tq] 25) = W0 at *
    have DR := Lib.hid dr
    clear dr
    go_wp2
    go_ret
    exact ⟨rfl, L0, DR.out⟩
  all_goals
    have HN := Lib.hid (mt HC.out.1.1 (by simp [e]))
    go_enter Tryd.func13, Tryd.ntmps13
    go_upto_region 1 with (fail)
    generalize World.alloc (World.alloc w _) _ = W0 at *
    have DR := Lib.hid dr
    clear dr
    go_wp2_with (first | (go_at_call 15; (with_reducible refine (K.out W0).mono ?_); rintro e1 w1 ⟨rfl, m1, hd1⟩; have D1 := Lib.hid hd1; clear hd1))
    · go_ret
      have hn := HN.out
      have h1 := HC.out.2
      exact ⟨ret_int (by omega), L0.trans (m1.mono L0.size), D1.out.trans DR.out⟩
    · go_ret
      have hn := HN.out
      have h1 := HC.out.2
      exact ⟨ret_int (by omega), L0.trans (m1.mono L0.size), D1.out.trans DR.out⟩

theorem tCmp_any (ts td tp tq : Int) (ts' td' tp' tq' : Int) (H : UNums ts td tp tq) (H' : UNums ts' td' tp' tq') (w : World) :
    Calls Tryd.prog 13 #[.agg #[.int .u32 ts, .int .u32 td, .int .u16 tp, .int .u16 tq], .agg #[.int .u32 ts', .int .u32 td', .int .u16 tp', .int .u16 tq']] w fun e w' => e = .returned (.int .i64 (cmpU ts td tp tq ts' td' tp' tq')) ∧ Below w.heap.size w w' :=
  (tCmp_d ts td tp tq ts' td' tp' tq' H H' w).mono fun _ _ h => ⟨h.1, h.2.1⟩
end Go.Proofs.YtpbheonapgckfaaDoor
