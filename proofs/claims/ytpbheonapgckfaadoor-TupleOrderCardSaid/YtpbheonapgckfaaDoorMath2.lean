/- Plain facts on bytes of which some are set: what becomes of the sum of their words. Nothing of the program is imported. -/
import Derived.Test.YtpbheonapgckfaaDoorMath
namespace Go.Proofs.YtpbheonapgckfaaDoor.SumM

theorem words_get (bs : List Int) (k : Nat) (h : k < (bs.length + 1) / 2) : (words bs)[k]?.getD 0 = wordAt bs k := by
  unfold words
  rw [upto_get _ _ _ h]
  rfl
theorem getD_set (l : List Int) (i j : Nat) (v : Int) (hi : i < l.length) : (l.set i v)[j]?.getD 0 = if i = j then v else l[j]?.getD 0 := by
  rw [List.getElem?_set]
  by_cases h : i = j
  · simp [h] at *
    simp [hi]
  · simp [h]
theorem words_set (l : List Int) (i : Nat) (hi : i < l.length) (v : Int) : words (l.set i v) = (words l).set (i / 2) (wordAt (l.set i v) (i / 2)) := by
  apply List.ext_getElem
  · simp [words_length]
  · intro k h1 h2
    have hk : k < (l.length + 1) / 2 := by simpa [words_length] using h1
    have e1 : (words (l.set i v))[k] = wordAt (l.set i v) k := by
      have := words_get (l.set i v) k (by simpa using hk)
      rwa [List.getElem?_eq_getElem h1] at this
    rw [e1, List.getElem_set]
    by_cases h : i / 2 = k
    · rw [if_pos h, h]
    · rw [if_neg h]
      have e2 := words_get l k hk
      rw [List.getElem?_eq_getElem (by rw [words_length]; exact hk)] at e2
      rw [Option.getD_some] at e2
      rw [e2]
      unfold wordAt
      rw [getD_set l _ _ _ hi, getD_set l _ _ _ hi, if_neg (by omega), if_neg (by omega)]
theorem tot_words_set (l : List Int) (i : Nat) (hi : i < l.length) (v : Int) : tot (words (l.set i v)) = tot (words l) + (v - l[i]?.getD 0) * (if i % 2 = 0 then 256 else 1) := by
  rw [words_set l i hi v, tot_set _ _ (by rw [words_length]; omega), words_get l _ (by omega)]
  unfold wordAt
  rw [getD_set l _ _ _ hi, getD_set l _ _ _ hi]
  by_cases h : i % 2 = 0
  · have e : 2 * (i / 2) = i := by omega
    rw [if_pos h, e, if_pos rfl, if_neg (by omega)]
    omega
  · have e : 2 * (i / 2) + 1 = i := by omega
    rw [if_neg h, e, if_pos rfl, if_neg (by omega)]
    omega
theorem in_set {m : Int} {l : List Int} (h : In m l) (i : Nat) (v : Int) (hv : 0 ≤ v ∧ v ≤ m) : In m (l.set i v) := by
  intro x hx
  rcases List.mem_or_eq_of_mem_set hx with h' | h'
  · exact h x h'
  · rw [h']; exact hv
/-- Noughts at an even place, then the check there: the sum is right. -/
theorem right_set (l : List Int) (hin : In 255 l) (j : Nat) (hj : 2 * j + 1 < l.length) (K : Int) (hK : 65535 - sumOf ((l.set (2 * j) 0).set (2 * j + 1) 0) = K) :
    sumOf ((((l.set (2 * j) 0).set (2 * j + 1) 0).set (2 * j) (K / 256)).set (2 * j + 1) (K % 256)) = 65535 := by
  generalize hc : (l.set (2 * j) 0).set (2 * j + 1) 0 = c at *
  have hlen : c.length = l.length := by rw [← hc]; simp
  have h0 : c[2 * j]?.getD 0 = 0 := by
    rw [← hc, getD_set _ _ _ _ (by simp; omega), if_neg (by omega), getD_set _ _ _ _ (by omega), if_pos rfl]
  have h1 : c[2 * j + 1]?.getD 0 = 0 := by
    rw [← hc, getD_set _ _ _ _ (by simp; omega), if_pos rfl]
  have hic : In 255 c := by
    rw [← hc]
    exact in_set (in_set hin _ 0 ⟨by decide, by decide⟩) _ 0 ⟨by decide, by decide⟩
  have hp := tot_in (words c) (words_in hic)
  have hs := cr_in (tot (words c))
  have e : tot (words ((c.set (2 * j) (K / 256)).set (2 * j + 1) (K % 256))) = tot (words c) + (65535 - cr (tot (words c))) := by
    have s1 := tot_words_set c (2 * j) (by omega) (K / 256)
    rw [if_pos (by omega), h0] at s1
    have s2 := tot_words_set (c.set (2 * j) (K / 256)) (2 * j + 1) (by simp; omega) (K % 256)
    rw [if_neg (by omega), getD_set _ _ _ _ (by omega), if_neg (by omega), h1] at s2
    rw [s2, s1]
    unfold sumOf at hK
    omega
  unfold sumOf
  rw [e]
  exact cr_right hp.1

theorem xor_bit_nat : ∀ x : Fin 256, ∀ s : Fin 8, (x.val ^^^ 2 ^ s.val = x.val + 2 ^ s.val) ∨ ((x.val ^^^ 2 ^ s.val) + 2 ^ s.val = x.val) := by decide +kernel
theorem xor_bit (x s : Nat) (hx : x < 256) (hs : s < 8) : (x ^^^ 2 ^ s = x + 2 ^ s) ∨ ((x ^^^ 2 ^ s) + 2 ^ s = x) := xor_bit_nat ⟨x, hx⟩ ⟨s, hs⟩
theorem pow_le (s : Nat) (hs : s < 8) : 1 ≤ 2 ^ s ∧ 2 ^ s ≤ 128 :=
  ⟨Nat.one_le_two_pow, Nat.le_trans (Nat.pow_le_pow_right (by decide) (show s ≤ 7 by omega)) (by decide)⟩
/-- Behind a right sum, a bit turned: it is not right. -/
theorem wrong_set (l : List Int) (hr : sumOf l = 65535) (p : Nat) (hp : p < l.length) (v : Int) (s : Nat) (hs : s < 8) (hv : v = l[p]?.getD 0 + (2 ^ s : Nat) ∨ v + (2 ^ s : Nat) = l[p]?.getD 0) : sumOf (l.set p v) ≠ 65535 := by
  unfold sumOf at *
  rw [tot_words_set l p hp v]
  have h2 := pow_le s hs
  generalize (2 ^ s : Nat) = d at *
  refine cr_near hr ?_ ?_ ?_ <;> (split <;> omega)
/-- Two places changed about: the sum of all is the same. -/
theorem tot_swap (l : List Int) (i k : Nat) (hi : i < l.length) (hk : k < l.length) : tot ((l.set i (l[k]?.getD 0)).set k (l[i]?.getD 0)) = tot l := by
  rw [tot_set _ _ (by simpa using hk), tot_set _ _ hi, getD_set _ _ _ _ hi]
  by_cases h : i = k
  · rw [if_pos h, h]; omega
  · rw [if_neg h]; omega
end Go.Proofs.YtpbheonapgckfaaDoor.SumM
