/- Plain facts on segments: what is put is parsed; a bit turned is told; the pseudo-head of other addresses. -/
import Derived.Test.YtclofmgnnohhpaaTcpR2
namespace Go.Proofs.Ytclofmgnnohhpaa
open SumM

/-- A head's twenty bytes written out, and what stands behind them. -/
def tC (sp dp tf hd c1 c2 : Int) (r : List Int) : List Int :=
  sp / 256 :: sp % 256 :: dp / 256 :: dp % 256 :: 0 :: 0 :: 0 :: 0 :: 0 :: 0 :: 0 :: 0 :: hd / 4 * 16 :: tf :: 0 :: 0 :: c1 :: c2 :: 0 :: 0 :: r
theorem thead_tC {sp dp tf hd : Int} (H : TNums sp dp tf) (hh : 20 ≤ hd ∧ hd ≤ 60) : thead sp dp tf hd = tC sp dp tf hd 0 0 (List.replicate (hd.toNat - 20) 0) := by
  obtain ⟨h1, h2, h3⟩ := H
  have e1 : (hd / 4 * 4096 + tf) / 256 = hd / 4 * 16 := by omega
  have e2 : (hd / 4 * 4096 + tf) % 256 = tf := by omega
  obtain ⟨m, hm⟩ : ∃ m, hd.toNat = m + 20 := ⟨hd.toNat - 20, by omega⟩
  simp [thead, tfill, tnums, e1, e2, hm, tC, List.replicate_succ]
theorem tput_tC {s d sp dp tf hd : Int} {ps : List Int} (H : TNums sp dp tf) (hh : 20 ≤ hd ∧ hd ≤ 60) (K : Int) (hK : 65535 - tsum s d (thead sp dp tf hd ++ ps) = K) :
    tput s d sp dp tf hd ps = tC sp dp tf hd (K / 256) (K % 256) (List.replicate (hd.toNat - 20) 0 ++ ps) := by
  unfold tput
  rw [hK, thead_tC H hh]
  simp [tC]
theorem tput_length {s d sp dp tf hd : Int} {ps : List Int} : (tput s d sp dp tf hd ps).length = hd.toNat + ps.length := by
  unfold tput
  simp [thead_length]
theorem tput_in {s d sp dp tf hd : Int} {ps : List Int} (H : TNums sp dp tf) (hh : 20 ≤ hd ∧ hd ≤ 60) (hp : In 255 ps) : In 255 (tput s d sp dp tf hd ps) := by
  have hc := cr_in (tot (words (psOf s d (thead sp dp tf hd ++ ps).length ++ (thead sp dp tf hd ++ ps))))
  have ht : tsum s d (thead sp dp tf hd ++ ps) = cr (tot (words (psOf s d (thead sp dp tf hd ++ ps).length ++ (thead sp dp tf hd ++ ps)))) := rfl
  have hi : In 255 (thead sp dp tf hd ++ ps) := by
    intro x hx
    rcases List.mem_append.1 hx with h | h
    · exact thead_in H hh x h
    · exact hp x h
  unfold tput
  exact in_set (in_set hi _ _ (by omega)) _ _ (by omega)
theorem tput_right {s d sp dp tf hd : Int} {ps : List Int} (hs : 0 ≤ s ∧ s ≤ 4294967295) (hd' : 0 ≤ d ∧ d ≤ 4294967295) (H : TNums sp dp tf) (hh : 20 ≤ hd ∧ hd ≤ 60) (hp : In 255 ps) : tsum s d (tput s d sp dp tf hd ps) = 65535 := by
  obtain ⟨K, hK⟩ : ∃ K, 65535 - tsum s d (thead sp dp tf hd ++ ps) = K := ⟨_, rfl⟩
  have hi : In 255 (thead sp dp tf hd ++ ps) := by
    intro x hx
    rcases List.mem_append.1 hx with h | h
    · exact thead_in H hh x h
    · exact hp x h
  have hl : In 255 (psOf s d (thead sp dp tf hd ++ ps).length ++ (thead sp dp tf hd ++ ps)) := by
    intro x hx
    rcases List.mem_append.1 hx with h | h
    · exact psOf_in hs hd' _ x h
    · exact hi x h
  have e0 : (((psOf s d (thead sp dp tf hd ++ ps).length ++ (thead sp dp tf hd ++ ps)).set (2 * 14) 0).set (2 * 14 + 1) 0) = psOf s d (thead sp dp tf hd ++ ps).length ++ (thead sp dp tf hd ++ ps) := by
    rw [thead_tC H hh]
    simp [psOf, tC]
  have hr := right_set _ hl 14 (by rw [List.length_append, psOf_length, List.length_append, thead_length]; omega) K (by rw [e0]; exact hK)
  rw [e0] at hr
  unfold tsum
  rw [tput_length]
  have e1 : ((thead sp dp tf hd ++ ps).length : Int) = ((hd.toNat + ps.length : Nat) : Int) := by rw [List.length_append, thead_length]
  rw [e1] at hr
  have e2 : psOf s d ((hd.toNat + ps.length : Nat) : Int) ++ tput s d sp dp tf hd ps = ((psOf s d ((hd.toNat + ps.length : Nat) : Int) ++ (thead sp dp tf hd ++ ps)).set (2 * 14) (K / 256)).set (2 * 14 + 1) (K % 256) := by
    unfold tput
    rw [hK]
    simp [psOf]
  rw [e2]
  exact hr
theorem tput_thl {s d sp dp tf hd : Int} {ps : List Int} (H : TNums sp dp tf) (hh : 20 ≤ hd ∧ hd ≤ 60) (h4 : hd % 4 = 0) : thl (tput s d sp dp tf hd ps) = hd := by
  rw [tput_tC H hh _ rfl]
  unfold thl tC
  simp
  omega
theorem twhy_put {s d sp dp tf hd : Int} {ps : List Int} (hs : 0 ≤ s ∧ s ≤ 4294967295) (hd' : 0 ≤ d ∧ d ≤ 4294967295) (H : TNums sp dp tf) (hm : mayB hd ps.length = true) (hp : In 255 ps) : twhy s d (tput s d sp dp tf hd ps) = 0 := by
  obtain ⟨m1, m2, m3, m4⟩ := mayB_le hm
  have h1 := tput_right (sp := sp) (dp := dp) (tf := tf) (hd := hd) hs hd' H ⟨m1, m2⟩ hp
  unfold twhy
  rw [tput_thl H ⟨m1, m2⟩ m3, tput_length, if_neg (by omega), if_neg (by omega), if_neg (by omega)]
theorem tput_seg {s d sp dp tf hd : Int} {ps : List Int} (H : TNums sp dp tf) (hm : mayB hd ps.length = true) :
    wordAt (tput s d sp dp tf hd ps) 0 = sp ∧ wordAt (tput s d sp dp tf hd ps) 1 = dp ∧ (tput s d sp dp tf hd ps)[13]?.getD 0 = tf ∧ thl (tput s d sp dp tf hd ps) = hd ∧ (tput s d sp dp tf hd ps).drop hd.toNat = ps := by
  obtain ⟨m1, m2, m3, m4⟩ := mayB_le hm
  refine ⟨?_, ?_, ?_, tput_thl H ⟨m1, m2⟩ m3, ?_⟩
  · rw [tput_tC H ⟨m1, m2⟩ _ rfl]
    simp [wordAt, tC]
    omega
  · rw [tput_tC H ⟨m1, m2⟩ _ rfl]
    simp [wordAt, tC]
    omega
  · rw [tput_tC H ⟨m1, m2⟩ _ rfl]
    simp [tC]
  · rw [tput_tC H ⟨m1, m2⟩ _ rfl]
    obtain ⟨m, hm⟩ : ∃ m, hd.toNat = m + 20 := ⟨hd.toNat - 20, by omega⟩
    rw [hm]
    simp [tC]
theorem twhy_short (s d : Int) {bs : List Int} (h : bs.length < 20 ∨ thl bs < 20 ∨ (bs.length : Int) < thl bs) : twhy s d bs = 8 := by
  unfold twhy
  by_cases c : bs.length < 20
  · rw [if_pos (.inl c)]
  · by_cases c2 : 65535 < bs.length
    · rw [if_pos (.inr c2)]
    · rw [if_neg (by omega), if_pos (by omega)]
theorem twhy_long (s d : Int) {bs : List Int} (h : ¬ (bs.length < 20 ∨ thl bs < 20 ∨ (bs.length : Int) < thl bs)) (h2 : bs.length ≤ 65535) : twhy s d bs = if tsum s d bs ≠ 65535 then 9 else 0 := by
  unfold twhy
  rw [if_neg (by omega), if_neg (by omega)]
theorem twhy_in (s d : Int) (bs : List Int) : twhy s d bs = 0 ∨ twhy s d bs = 8 ∨ twhy s d bs = 9 := by
  unfold twhy
  split
  · simp
  split
  · simp
  split <;> simp
/-- A bit turned in a right segment. -/
theorem twhy_bit {s d : Int} {bs : List Int} (hr : tsum s d bs = 65535) (p : Nat) (hp : p < bs.length) (v : Int) (k : Nat) (hk : k < 8) (hv : v = bs[p]?.getD 0 + (2 ^ k : Nat) ∨ v + (2 ^ k : Nat) = bs[p]?.getD 0) : twhy s d (bs.set p v) ≠ 0 := by
  have h := wrong_set (psOf s d bs.length ++ bs) hr (12 + p) (by rw [List.length_append, psOf_length]; omega) v k hk (by
    rw [List.getElem?_append_right (by rw [psOf_length]; omega), psOf_length, Nat.add_sub_cancel_left]
    exact hv)
  have e : (psOf s d bs.length ++ bs).set (12 + p) v = psOf s d bs.length ++ bs.set p v := by
    rw [List.set_append, if_neg (by rw [psOf_length]; omega), psOf_length, Nat.add_sub_cancel_left]
  rw [e] at h
  have h2 : tsum s d (bs.set p v) ≠ 65535 := by
    unfold tsum
    rw [List.length_set]
    exact h
  intro h0
  unfold twhy at h0
  rw [if_pos h2] at h0
  split at h0
  · cases h0
  · split at h0 <;> cases h0
/-- The words of an even number of bytes, and of what stands behind them. -/
theorem words_append (xs bs : List Int) (h : xs.length % 2 = 0) : words (xs ++ bs) = words xs ++ words bs := by
  apply List.ext_getElem
  · simp only [words_length, List.length_append]
    omega
  · intro k h1 h2
    rw [words_length, List.length_append] at h1
    have e1 := words_get (xs ++ bs) k (by rw [List.length_append]; exact h1)
    have h1' : k < (words (xs ++ bs)).length := by rw [words_length, List.length_append]; exact h1
    rw [List.getElem?_eq_getElem h1', Option.getD_some] at e1
    rw [e1]
    by_cases hk : k < (words xs).length
    · rw [List.getElem_append_left hk]
      have e2 := words_get xs k (by rw [words_length] at hk; exact hk)
      rw [List.getElem?_eq_getElem hk, Option.getD_some] at e2
      rw [e2]
      rw [words_length] at hk
      unfold wordAt
      rw [List.getElem?_append_left (by omega), List.getElem?_append_left (by omega)]
    · rw [List.getElem_append_right (by omega)]
      have hk2 : k - (words xs).length < (words bs).length := by
        rw [words_length, words_length]
        rw [words_length] at hk
        omega
      have e2 := words_get bs (k - (words xs).length) (by rw [words_length bs] at hk2; exact hk2)
      rw [List.getElem?_eq_getElem hk2, Option.getD_some] at e2
      rw [e2]
      rw [words_length] at hk ⊢
      unfold wordAt
      rw [List.getElem?_append_right (by omega), List.getElem?_append_right (by omega)]
      have e3 : 2 * k - xs.length = 2 * (k - (xs.length + 1) / 2) := by omega
      have e4 : 2 * k + 1 - xs.length = 2 * (k - (xs.length + 1) / 2) + 1 := by omega
      rw [e3, e4]
theorem tsum_eq (s d : Int) (bs : List Int) : tsum s d bs = cr (tot (words (psOf s d bs.length)) + tot (words bs)) := by
  unfold tsum sumOf
  rw [words_append _ _ (by rw [psOf_length]), tot_append]
/-- The pseudo-head's words, added. -/
theorem ps_tot (s d n : Int) : tot (words (psOf s d n)) = 256 * (s / 16777216) + s / 65536 % 256 + (256 * (s / 256 % 256) + s % 256) + (256 * (d / 16777216) + d / 65536 % 256) + (256 * (d / 256 % 256) + d % 256) + 6 + (256 * (n / 256 % 256) + n % 256) := by
  simp [words, upto, psOf, List.range_succ, wordAt, tot]
  omega
theorem tsum_swap (s d : Int) (bs : List Int) : tsum d s bs = tsum s d bs := by
  rw [tsum_eq, tsum_eq, ps_tot, ps_tot]
  congr 1
  omega
theorem twhy_swap (s d : Int) (bs : List Int) : twhy d s bs = twhy s d bs := by unfold twhy; rw [tsum_swap]
/-- With other addresses it is right just if the pseudo-head's sum is as it was. -/
theorem twhy_other {s d x y : Int} (hs : 0 ≤ s ∧ s ≤ 4294967295) (hd : 0 ≤ d ∧ d ≤ 4294967295) (hx : 0 ≤ x ∧ x ≤ 4294967295) (hy : 0 ≤ y ∧ y ≤ 4294967295) {bs : List Int} (hin : In 255 bs) (h0 : twhy s d bs = 0) :
    twhy x y bs = 9 ↔ sumOf (psOf s d bs.length) ≠ sumOf (psOf x y bs.length) := by
  have hb := tot_in (words bs) (words_in hin)
  have a1 := ps_tot s d bs.length
  have a2 := ps_tot x y bs.length
  have h1 : tsum s d bs = 65535 := by
    unfold twhy at h0
    split at h0
    · cases h0
    split at h0
    · cases h0
    split at h0
    · cases h0
    · rename_i h
      simpa using h
  have h2 : twhy x y bs = 9 ↔ tsum x y bs ≠ 65535 := by
    unfold twhy at h0 ⊢
    split at h0
    · cases h0
    rename_i c1
    split at h0
    · cases h0
    rename_i c2
    rw [if_neg c1, if_neg c2]
    split <;> simp_all
  rw [h2]
  rw [tsum_eq] at h1 ⊢
  unfold sumOf
  generalize tot (words (psOf s d bs.length)) = A at *
  generalize tot (words (psOf x y bs.length)) = A' at *
  generalize tot (words bs) = B at *
  have p1 : 0 < A := by omega
  have p2 : 0 < A' := by omega
  clear a1 a2 h2 h0
  unfold cr at *
  rw [if_neg (by omega)] at h1
  rw [if_neg (by omega), if_neg (by omega), if_neg (by omega)]
  omega
end Go.Proofs.Ytclofmgnnohhpaa
