/- 'handfastlaw08.HashOne' returns true, and leaves what lay as it lay. -/
import Derived.Test.YtklmlpnccbmpnaaHsW
namespace Go.Proofs.Ytklmlpnccbmpnaa
open Go.RowKit Go.Shelf
open SumM

/-- What is noted behind the first k bytes: of each byte, is it the turn of one of them? -/
def Seen (b k : Nat) (w : World) : Prop := ∃ cs : Array Value, w.heap[b]? = some (.cells cs 40 (0, 0)) ∧ cs.size = 256 ∧ ∀ i, i < 256 → cs[i]? = some (.bool (decide (unt (i : Int) < (k : Int))))
theorem Seen.below {b k : Nat} {w w' : World} (h : Seen b k w) (hb : Below w.heap.size w w') : Seen b k w' := by
  obtain ⟨cs, h1, h2⟩ := h
  exact ⟨cs, (hb.block _ (Array.getElem?_eq_some_iff.1 h1).1).trans h1, h2⟩
theorem Seen.cell {b k : Nat} {w : World} (h : Seen b k w) (i : Nat) (hi : i < 256) : w.cell? ⟨b, i, none⟩ = some (.bool (decide (unt (i : Int) < (k : Int)))) ∧ w.frozen? ⟨b, i, none⟩ = false := by
  obtain ⟨cs, h1, _, h3⟩ := h
  exact ⟨(cell_of_row _ _ _ _ _ _ h1).trans (h3 i hi), by simp [World.frozen?, h1]⟩
theorem Seen.note {b k : Nat} {w : World} (h : Seen b k w) (hk : k < 256) (i : Nat) (hi : (i : Int) = trn (k : Int)) : Seen b (k + 1) (w.setCell ⟨b, i, none⟩ (.bool true)) := by
  obtain ⟨cs, h1, h2, h3⟩ := h
  have ht := trn_in (k : Int)
  refine ⟨_, heap_setCell_same _ _ _ _ _ _ h1, by simp [h2], fun j hj => ?_⟩
  by_cases e : j = i
  · subst e
    have e2 : unt (j : Int) = (k : Int) := by rw [hi, unt_trn (by omega)]
    simp [h2, hj, e2]
    omega
  · have e2 : unt (j : Int) ≠ (k : Int) := by
      intro e3
      have e4 : trn (unt (j : Int)) = (j : Int) := trn_unt (by omega)
      rw [e3, ← hi] at e4
      exact e (by omega)
    have e5 : (unt (j : Int) < (k : Int)) ↔ (unt (j : Int) < ((k + 1 : Nat) : Int)) := by omega
    rw [show decide (unt (j : Int) < ((k + 1 : Nat) : Int)) = decide (unt (j : Int) < (k : Int)) from by simp only [e5]]
    rw [← h3 j hj]
    simp [Ne.symm e]
theorem seen_zero (w : World) : Seen w.heap.size 0 (w.alloc (.cells Try.zeroCells40 40)) := by
  have e : Try.zeroCells40 = Array.replicate 256 (.bool false) := by kernel_rfl
  refine ⟨_, heap_alloc_new w _, by rw [e]; simp, fun i hi => ?_⟩
  have hu := unt_in (i : Int)
  rw [e]
  simp [hi]
  omega

set_option maxRecDepth 100000 in
set_option maxHeartbeats 16000000 in
theorem hOne_walk (w : World) : Calls Try.prog 4 #[] w fun e w' => e = .returned (.bool true) ∧ Below w.heap.size w w' := by
  have S0 := Lib.hid (seen_zero w)
  have L0 := Lib.hid ((Below.refl w.heap.size w).alloc (Nat.le_refl _) (.cells Try.zeroCells40 40))
  go_enter Try.func4, Try.ntmps4
  go_wp2_with (fail)
  generalize w.alloc (.cells Try.zeroCells40 40) = W0 at *
  go_loopw [2] (fun i wr => ∃ k : Nat, k ≤ 256 ∧ i = .int .i64 k ∧ Seen w.heap.size k wr ∧ Below w.heap.size w wr) (fun i _ => 256 - (intOf i).toNat)
  case atStart => exact ⟨0, by omega, rfl, S0.out, L0.out⟩
  case round =>
    obtain ⟨k, hk, rfl, hS, L⟩ := hrel
    by_cases hlt : k < 256
    · have hk0 : (0 : Int) ≤ (k : Int) := by omega
      have hk2 : (k : Int) < 256 := by omega
      have hk3 : (k : Int) ≤ 255 := by omega
      have KT := Lib.hid (hTurn_any (k : Int) ⟨hk0, hk3⟩ wr)
      go_wp2_with (fail)
      refine KT.out.mono ?_
      rintro e w1 ⟨rfl, m1⟩
      have S1 := Lib.hid (hS.below m1)
      have L1 := Lib.hid (L.trans (m1.mono L.size))
      have ht := trn_in (k : Int)
      obtain ⟨i, hi⟩ : ∃ i : Nat, trn (k : Int) = (i : Int) := ⟨(trn (k : Int)).toNat, by omega⟩
      have hu : unt (i : Int) = (k : Int) := by rw [← hi, unt_trn ⟨hk0, hk3⟩]
      have hi0 : (0 : Int) ≤ (i : Int) := by omega
      have hi2 : (i : Int) < 256 := by omega
      have hi3 : (i : Int) ≤ 255 := by omega
      have hi4 : i < 256 := by omega
      obtain ⟨c0, f0⟩ := S1.out.cell i hi4
      rw [show decide (unt (i : Int) < (k : Int)) = false by rw [hu]; simp] at c0
      have KU := Lib.hid (show Calls Try.prog 17 #[.int .u8 (i : Int)] w1 fun e w' => e = .returned (.int .u8 (k : Int)) ∧ Below w1.heap.size w1 w' from hu ▸ hUnturn_any (i : Int) ⟨hi0, hi3⟩ w1)
      have HI := Lib.hid hi
      rw [hi]
      clear hS L m1 hi ht hu
      go_wp2_with (fail)
      refine KU.out.mono ?_
      rintro e w2 ⟨rfl, m2⟩
      have S2 := Lib.hid (S1.out.below m2)
      have L2 := Lib.hid (L1.out.trans (m2.mono L1.out.size))
      obtain ⟨c2, f2⟩ := S2.out.cell i hi4
      clear m2 c0 f0
      go_wp2
      go_round
      case rel => exact ⟨k + 1, by omega, by go_num, S2.out.note hlt i HI.out.symm, L2.out.setCell (p := ⟨w.heap.size, i, none⟩) (Nat.le_refl _) _⟩
      case measure => simp [intOf]; omega
    · obtain rfl : k = 256 := by omega
      clear hlt
      go_wp2_with (fail)
      refine (hwakes_any _).mono ?_
      rintro e w1 ⟨rfl, m1⟩
      go_wp2
      go_ret
      exact ⟨rfl, L.trans (m1.mono L.size)⟩
end Go.Proofs.Ytklmlpnccbmpnaa
