/- 'handfastlaw09.EntryHolds' returns true at every entry, and leaves what lay as it lay. -/
import Derived.Test.YtpeaakcapfjncaaEyW
import Derived.Test.YtpeaakcapfjncaaEyL
namespace Go.Proofs.Ytpeaakcapfjncaa
open Go.RowKit Go.Shelf
open SumM

theorem hols_facts {ec ep eg et : Int} (h : rgt ec ep eg et = true) :
    (∀ k, k < (hols ec ep).length → 0 ≤ (hols ec ep)[k]?.getD 0 ∧ (hols ec ep)[k]?.getD 0 < 6) ∧ (∀ k, 0 < k → k < (hols ec ep).length → (hols ec ep)[k]?.getD 0 ≠ (hols ec ep)[0]?.getD 0) ∧
    (((hols ec ep).length : Int) == 2) = (ep != -1) ∧ (((hols ec ep).length : Int) == 0) = (ec == -1) := by
  obtain ⟨h1, h2, _, _, h5⟩ := rgt_iff.1 h
  by_cases a : ec = -1
  · have b : ep = -1 := by omega
    subst a b
    refine ⟨fun k hk => ?_, fun k _ hk => ?_, by decide, by decide⟩ <;> simp [hols] at hk
  · by_cases b : ep = -1
    · have e : hols ec ep = [ec] := by simp [hols, a, b]
      rw [e]
      refine ⟨fun k hk => ?_, fun k h0 hk => ?_, ?_, ?_⟩
      · have hk0 : k = 0 := by simpa using hk
        subst hk0
        simp
        omega
      · have hk0 : k = 0 := by simpa using hk
        omega
      · simp [b]
      · simp [a]
    · have e : hols ec ep = [ec, ep] := by simp [hols, a, b]
      rw [e]
      refine ⟨fun k hk => ?_, fun k h0 hk => ?_, ?_, ?_⟩
      · have hk0 : k = 0 ∨ k = 1 := by simp at hk; omega
        rcases hk0 with rfl | rfl
        · simp
          omega
        · simp
          omega
      · have hk0 : k = 1 := by simp at hk; omega
        subst hk0
        simp
        omega
      · simp [b]
      · simp [a]

set_option maxRecDepth 100000 in
set_option maxHeartbeats 16000000 in
theorem eyHolds_walk (ec ep eg et : Int) (w : World) (H : Ent.ok (ec, ep, eg, et)) :
    Calls Try.prog 5 #[.agg #[.int .i64 ec, .int .i64 ep, .int .i64 eg, .int .i64 et]] w fun e w' => e = .returned (.bool true) ∧ Below w.heap.size w w' := by
  have bE := heap_alloc_new w (.cells #[.int .i64 ec, .int .i64 ep, .int .i64 eg, .int .i64 et] 23)
  have L0 := (Below.refl w.heap.size w).alloc (Nat.le_refl _) (.cells #[.int .i64 ec, .int .i64 ep, .int .i64 eg, .int .i64 et] 23)
  have TW := Lib.hid (fun W => ewakes_any W)
  have KR := Lib.hid (fun W => eRight_any ec ep eg et W)
  have KM := Lib.hid (fun W => eMoving_any ec ep eg et W)
  have KH := Lib.hid (fun W => eHolders_any ec ep eg et H W)
  obtain ⟨q0, q1, q2, q3⟩ := ent_cells _ _ _ _ bE
  clear H
  go_enter Try.func5, Try.ntmps5
  go_upto_region 1 with (fail)
  generalize w.alloc (.cells #[.int .i64 ec, .int .i64 ep, .int .i64 eg, .int .i64 et] 23) = W0 at *
  go_wp2_with fail
  refine (KH.out W0).mono ?_
  rintro e w1 ⟨A, c, rfl, R, m1⟩
  have L1 := L0.trans (m1.mono L0.size)
  have bE1 := (m1.block _ (Array.getElem?_eq_some_iff.1 bE).1).trans bE
  clear q0 q1 q2 q3 bE L0 m1 KH
  obtain ⟨q0, q1, q2, q3⟩ := ent_cells _ _ _ _ bE1
  have p3 : decide (((hols ec ep).length : Int) ≤ 2) = true := decide_eq_true (by have := hols_len ec ep; omega)
  by_cases hok : rgt ec ep eg et = true
  case neg =>
    have hok' : rgt ec ep eg et = false := by simpa using hok
    rw [hok'] at KR
    clear hok hok'
    generalize hols ec ep = zs at *
    obtain ⟨len, hl⟩ : ∃ len, zs.length = len := ⟨_, rfl⟩
    rw [hl] at p3 ⊢
    clear hl
    go_wp2_with (first
      | (go_at_call 8; (with_reducible refine (KR.out _).mono ?_); rintro e w2 ⟨rfl, m2⟩)
      | (go_at_call 7; (with_reducible refine (TW.out _).mono ?_); rintro e w3 ⟨rfl, m3⟩))
    go_ret
    exact ⟨rfl, (L1.trans (m2.mono L1.size)).trans (m3.mono (L1.trans (m2.mono L1.size)).size)⟩
  rw [hok] at KR
  obtain ⟨F1, F2, F3, F4⟩ := hols_facts hok
  clear hok
  generalize hols ec ep = zs at *
  obtain ⟨len, hl⟩ : ∃ len, zs.length = len := ⟨_, rfl⟩
  obtain ⟨b2, h2⟩ : ∃ b, (ep != -1) = b := ⟨_, rfl⟩
  obtain ⟨b0, h0⟩ : ∃ b, (ec == -1) = b := ⟨_, rfl⟩
  rw [hl] at p3 F3 F4 F1 F2 ⊢
  rw [h2] at F3 KM
  rw [h0] at F4
  have HF := Lib.hid (And.intro F1 F2)
  have HL := Lib.hid hl
  have HR := Lib.hid R
  have HP := Lib.hid (And.intro p3 (And.intro F3 (And.intro F4 h0)))
  have hlen2 : len ≤ 2 := by have := of_decide_eq_true p3; omega
  clear F1 F2 F3 F4 hl R h2 h0 p3
  go_wp2_with (go_at_call 8; (with_reducible refine (KR.out _).mono ?_); rintro e w2 ⟨rfl, m2⟩)
  have L2 := L1.trans (m2.mono L1.size)
  have bE2 := (m2.block _ (Array.getElem?_eq_some_iff.1 bE1).1).trans bE1
  have HR2 := Lib.hid (HR.out.step m2)
  clear q0 q1 q2 q3 bE1 L1 m2 KR HR
  go_loopw [4] (fun i wr => ∃ k : Nat, k ≤ len ∧ i = .int .i64 k ∧ ∃ n, wr = w2.drewN n) (fun i _ => len - (intOf i).toNat)
  case atStart => exact ⟨0, by omega, rfl, 0, rfl⟩
  case round =>
    obtain ⟨k, hk, rfl, n, rfl⟩ := hrel
    by_cases hlt : k < len
    · obtain ⟨b1, off1, rfl, hb1, hc1⟩ := HR2.out.2 (by rw [HL.out]; omega)
      have hck := hc1 k (by rw [HL.out]; omega)
      have hc0 : w2.cell? ⟨b1, off1, none⟩ = some (.int .i64 (zs[0]?.getD 0)) := by simpa using hc1 0 (by rw [HL.out]; omega)
      have g1 := HF.out.1 k hlt
      have hk0 : (0 : Int) ≤ (k : Int) := by omega
      have hk1 : (k : Int) < (len : Int) := by omega
      have hl0 : (0 : Int) < (len : Int) := by omega
      have hl0' : 0 < len := by omega
      have G2 := Lib.hid (HF.out.2 k)
      clear hc1
      generalize zs[k]?.getD 0 = z at *
      generalize zs[0]?.getD 0 = z0 at *
      have p1 : decide (z < 0) = false := decide_eq_false (by omega)
      have p2 : decide (6 ≤ z) = false := decide_eq_false (by omega)
      clear g1
      rcases Nat.eq_zero_or_pos k with hk00 | hkp
      · have p4 : decide ((0 : Int) < (k : Int)) = false := decide_eq_false (by omega)
        have p4' : decide (0 < k) = false := decide_eq_false (by omega)
        clear hk00
        go_wp2
        go_quiet (fail)
        go_wp2
        go_roundw
        case rel => exact ⟨k + 1, by omega, by go_num, _, rfl⟩
        case measure => simp [intOf]; omega
      · have p4 : decide ((0 : Int) < (k : Int)) = true := decide_eq_true (by omega)
        have p4' : decide (0 < k) = true := decide_eq_true hkp
        have p5 : (z == z0) = false := by simpa using G2.out hkp hlt
        go_wp2
        go_quiet (fail)
        go_wp2
        go_roundw
        case rel => exact ⟨k + 1, by omega, by go_num, _, rfl⟩
        case measure => simp [intOf]; omega
    · obtain rfl : k = len := by omega
      obtain ⟨p3, F3, F4, h0⟩ := HP.out
      obtain ⟨q0, q1, q2, q3⟩ := ent_cells _ _ _ _ bE2
      go_wp2_with fail
      refine (KM.out _).mono ?_
      rintro e w3 ⟨rfl, m3⟩
      have m3' : Below w2.heap.size w2 w3 := ⟨m3.os, m3.tape, m3.output, m3.size, m3.block⟩
      have L3 := Lib.hid (L2.trans (m3'.mono L2.size))
      have bE3 := (m3'.block _ (Array.getElem?_eq_some_iff.1 bE2).1).trans bE2
      clear q0 q1 q2 q3 bE2 L2 m3 m3' HR2 HF HL HP KM
      obtain ⟨q0, q1, q2, q3⟩ := ent_cells _ _ _ _ bE3
      have r2 : (b2 == b2) = true := by simp
      have r0 : (b0 == b0) = true := by simp
      go_wp2_with (go_at_call 7; (with_reducible refine (TW.out _).mono ?_); rintro e w4 ⟨rfl, m4⟩)
      go_ret
      exact ⟨rfl, L3.out.trans (m4.mono L3.out.size)⟩
end Go.Proofs.Ytpeaakcapfjncaa
