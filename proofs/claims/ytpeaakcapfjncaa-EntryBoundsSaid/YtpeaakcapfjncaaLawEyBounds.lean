/- 'handfastlaw09.EntryBounds' returns true at every entry and number, and leaves what lay as it lay. -/
import Derived.Test.YtpeaakcapfjncaaEyW
import Derived.Test.YtpeaakcapfjncaaEyL
namespace Go.Proofs.Ytpeaakcapfjncaa
open Go.RowKit Go.Shelf
open SumM

theorem eRight_not (ec ep eg et : Int) (h : ¬ ((-1 ≤ ec ∧ ec < 6) ∧ (-1 ≤ ep ∧ ep < 6) ∧ (0 ≤ eg ∧ eg < 2147483648) ∧ (0 ≤ et ∧ et ≤ 1099511627776) ∧ (ep = -1 ∨ (ec ≠ -1 ∧ ec ≠ ep)))) (w : World) :
    Calls Try.prog 8 #[.agg #[.int .i64 ec, .int .i64 ep, .int .i64 eg, .int .i64 et]] w fun e w' => e = .returned (.bool false) ∧ Below w.heap.size w w' := by
  have k := eRight_any ec ep eg et w
  rwa [show rgt ec ep eg et = false by rw [Bool.eq_false_iff]; intro hc; exact h (rgt_iff.1 hc)] at k

set_option maxRecDepth 100000 in
set_option maxHeartbeats 16000000 in
theorem eyBounds_walk (ec ep eg et : Int) (n : Int) (w : World) (H : Ent.ok (ec, ep, eg, et)) (hn0 : (Lit.int .i64 n).wf = true) :
    Calls Try.prog 6 #[.agg #[.int .i64 ec, .int .i64 ep, .int .i64 eg, .int .i64 et], .int .i64 n] w fun e w' => e = .returned (.bool true) ∧ Below w.heap.size w w' := by
  have hn := wf_i64.1 hn0
  have bO := heap_alloc_new w (.cells #[.int .i64 ec, .int .i64 ep, .int .i64 eg, .int .i64 et] 23)
  have L0 := (Below.refl w.heap.size w).alloc (Nat.le_refl _) (.cells #[.int .i64 ec, .int .i64 ep, .int .i64 eg, .int .i64 et] 23)
  have TW := Lib.hid (fun W => ewakes_any W)
  have HH := Lib.hid H
  have HN := Lib.hid hn
  have KR := Lib.hid (fun W => eRight_any ec ep eg et W)
  obtain ⟨q0, q1, q2, q3⟩ := ent_cells _ _ _ _ bO
  clear H hn0 hn
  go_enter Try.func6, Try.ntmps6
  go_upto_region 1 with (fail)
  generalize (w.alloc (.cells #[.int .i64 ec, .int .i64 ep, .int .i64 eg, .int .i64 et] 23)) = W0 at *
  by_cases hok : rgt ec ep eg et = true
  case neg =>
    have hok' : rgt ec ep eg et = false := by simpa using hok
    go_wp2_with (first
      | (go_at_call 8; (with_reducible refine (KR.out _).mono ?_); rintro e w1 ⟨rfl, m1⟩; rw [hok'])
      | (go_at_call 7; (with_reducible refine (TW.out _).mono ?_); rintro e w2 ⟨rfl, m2⟩))
    go_ret
    exact ⟨rfl, (L0.trans (m1.mono L0.size)).trans (m2.mono (Nat.le_trans L0.size m1.size))⟩
  by_cases h1 : n < 1 ∨ 1000 < n
  · have hc : decide (n < 1) = true ∨ (decide (n < 1) = false ∧ decide (1000 < n) = true) := by
      by_cases h : n < 1
      · exact .inl (decide_eq_true h)
      · exact .inr ⟨decide_eq_false h, decide_eq_true (by omega)⟩
    rcases hc with p1 | ⟨p1, p2⟩
    all_goals
      go_wp2_with (first
        | (go_at_call 8; (with_reducible refine (KR.out _).mono ?_); rintro e w1 ⟨rfl, m1⟩; rw [hok])
        | (go_at_call 7; (with_reducible refine (TW.out _).mono ?_); rintro e w2 ⟨rfl, m2⟩))
      go_ret
      exact ⟨rfl, (L0.trans (m1.mono L0.size)).trans (m2.mono (Nat.le_trans L0.size m1.size))⟩
  · have p1 : decide (n < 1) = false := decide_eq_false (by omega)
    have p2 : decide (1000 < n) = false := decide_eq_false (by omega)
    have HNN := Lib.hid (show 1 ≤ n ∧ n ≤ 1000 by omega)
    go_wp2_with (go_at_call 8; (with_reducible refine (KR.out _).mono ?_); rintro e w1 ⟨rfl, m1⟩; rw [hok])
    have bO1 := (m1.block _ (Array.getElem?_eq_some_iff.1 bO).1).trans bO
    have L1 := L0.trans (m1.mono L0.size)
    have HOK := Lib.hid (rgt_iff.1 hok)
    clear q0 q1 q2 q3 bO L0 m1 hok h1 KR
    go_loopw [5] (fun i wr => ∃ k : Nat, k ≤ 7 ∧ i = .int .i64 k ∧ wr.heap[w.heap.size]? = some (.cells #[.int .i64 ec, .int .i64 ep, .int .i64 eg, .int .i64 et] 23 (0, 0)) ∧ Below w.heap.size w wr) (fun i _ => 7 - (intOf i).toNat)
    case atStart => exact ⟨0, by omega, rfl, bO1, L1⟩
    case round =>
      obtain ⟨k, hk, rfl, bO2, L2⟩ := hrel
      clear bO1 L1
      obtain ⟨q0, q1, q2, q3⟩ := ent_cells _ _ _ _ bO2
      by_cases hlt : k < 7
      · have HB := Lib.hid bO2
        have HL := Lib.hid L2
        have hq0 : wrap64 (-1 - n) = -1 - n := by unfold wrap64; have := HNN.out; omega
        have hq1 : wrap64 (5 + n) = 5 + n := by unfold wrap64; have := HNN.out; omega
        have hq2 : wrap64 (-n) = -n := by unfold wrap64; have := HNN.out; omega
        have hq3 : wrap64 (2147483647 + n) = 2147483647 + n := by unfold wrap64; have := HNN.out; omega
        have hq4 : wrap64 (1099511627776 + n) = 1099511627776 + n := by unfold wrap64; have := HNN.out; omega
        clear bO2 L2
        have hkc : k = 0 ∨ k = 1 ∨ k = 2 ∨ k = 3 ∨ k = 4 ∨ k = 5 ∨ k = 6 := by omega
        rcases hkc with rfl | rfl | rfl | rfl | rfl | rfl | rfl
        all_goals
          go_wp2_with (go_at_call 8; refine (eRight_not _ _ _ _ (by have g1 := HNN.out; have g2 := Int.tmod_nonneg (6 : Int) (show 0 ≤ n by omega); omega) _).mono ?_; rintro e w5 ⟨rfl, m5⟩)
          go_roundw
          case measure => simp [intOf]
          case rel =>
            have hz := (Array.getElem?_eq_some_iff.1 HB.out).1
            have b5 := (m5.block w.heap.size (by rw [World.size_alloc]; omega)).trans ((Below.heap_alloc wr _ _ hz).trans HB.out)
            have l5 := (HL.out.alloc HL.out.size _).trans (m5.mono (HL.out.alloc HL.out.size _).size)
            first
            | exact ⟨1, by omega, by go_num, b5, l5⟩
            | exact ⟨2, by omega, by go_num, b5, l5⟩
            | exact ⟨3, by omega, by go_num, b5, l5⟩
            | exact ⟨4, by omega, by go_num, b5, l5⟩
            | exact ⟨5, by omega, by go_num, b5, l5⟩
            | exact ⟨6, by omega, by go_num, b5, l5⟩
            | exact ⟨7, by omega, by go_num, b5, l5⟩
      · obtain rfl : k = 7 := by omega
        clear hlt
        go_wp2_with (go_at_call 7; (with_reducible refine (TW.out _).mono ?_); rintro e w2 ⟨rfl, m2⟩)
        go_ret
        exact ⟨rfl, L2.trans (m2.mono L2.size)⟩
end Go.Proofs.Ytpeaakcapfjncaa
