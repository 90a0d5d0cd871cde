/- Plain facts of tuples: bytes and numbers, the order, sorting, texts. -/
import Derived.Test.YtklmlpnccbmpnaaTupH
namespace Go.Proofs.Ytklmlpnccbmpnaa
open Go.RowKit Go.Shelf
open SumM

/-- Bytes and numbers. -/
theorem numOf4 (n : Int) (h : 0 ≤ n ∧ n ≤ 4294967295) : numOf [n / 16777216 % 256, n / 65536 % 256, n / 256 % 256, n % 256] = n := by
  simp [numOf]
  omega
theorem numOf2 (n : Int) (h : 0 ≤ n ∧ n ≤ 65535) : numOf [n / 256 % 256, n % 256] = n := by
  simp [numOf]
  omega
theorem takeF_tupB {ts td tp tq : Int} (H : UNums ts td tp tq) : takeF (tupB ts td tp tq) = (ts, td, tp, tq) ∧ takeY (tupB ts td tp tq) = 0 := by
  unfold takeF takeY
  rw [if_pos (tupB_length ..), if_neg (by rw [tupB_length]; omega), if_neg (by rw [tupB_length]; omega)]
  refine ⟨?_, rfl⟩
  show (numOf [ts / 16777216 % 256, ts / 65536 % 256, ts / 256 % 256, ts % 256], numOf [td / 16777216 % 256, td / 65536 % 256, td / 256 % 256, td % 256], numOf [tp / 256 % 256, tp % 256], numOf [tq / 256 % 256, tq % 256]) = _
  rw [numOf4 _ H.h1, numOf4 _ H.h2, numOf2 _ H.h3, numOf2 _ H.h4]
theorem takeF_ok (bs : List Int) (h : In 255 bs) : UNums (takeF bs).1 (takeF bs).2.1 (takeF bs).2.2.1 (takeF bs).2.2.2 := by
  unfold takeF
  split
  · have b1 := num_bound (bs.take 4) (in_take h 4) 4 (by simp; omega)
    have b2 := num_bound ((bs.drop 4).take 4) (in_take (in_drop h 4) 4) 4 (by simp; omega)
    have b3 := num_bound ((bs.drop 8).take 2) (in_take (in_drop h 8) 2) 2 (by simp; omega)
    have b4 := num_bound (bs.drop 10) (in_drop h 10) 2 (by simp; omega)
    exact ⟨by simp; omega, by simp; omega, by simp; omega, by simp; omega⟩
  · exact ⟨by decide, by decide, by decide, by decide⟩
theorem tupB_takeF {bs : List Int} (h : In 255 bs) (hl : bs.length = 12) : tupB (takeF bs).1 (takeF bs).2.1 (takeF bs).2.2.1 (takeF bs).2.2.2 = bs := by
  match bs, hl with
  | [a, b, c, d, e, f, g, i, j, k, l, m], _ =>
    simp only [In, List.mem_cons, List.not_mem_nil, or_false, forall_eq_or_imp, forall_eq] at h
    simp [takeF, tupB, numOf]
    omega
theorem tupB_inj {ts td tp tq ts' td' tp' tq' : Int} (H : UNums ts td tp tq) (H' : UNums ts' td' tp' tq') (h : tupB ts td tp tq = tupB ts' td' tp' tq') : ts = ts' ∧ td = td' ∧ tp = tp' ∧ tq = tq' := by
  have e1 := (takeF_tupB H).1
  have e2 := (takeF_tupB H').1
  rw [h, e2] at e1
  simpa using e1.symm

/-- The order. -/
theorem cmpL_swap (a b : List Int) : cmpL b a = - cmpL a b := by
  induction a generalizing b with
  | nil => cases b <;> simp [cmpL]
  | cons x r ih =>
    cases b with
    | nil => simp [cmpL]
    | cons y t =>
      simp only [cmpL]
      rcases Int.lt_trichotomy x y with h | h | h
      · rw [if_neg (by omega), if_pos h, if_pos h]; rfl
      · rw [if_neg (by omega), if_neg (by omega), if_neg (by omega), if_neg (by omega)]; exact ih t
      · rw [if_pos h, if_neg (by omega), if_pos h]
theorem cmpL_zero (a b : List Int) (hl : a.length = b.length) : cmpL a b = 0 ↔ a = b := by
  induction a generalizing b with
  | nil =>
    cases b with
    | nil => simp [cmpL]
    | cons y t => simp at hl
  | cons x r ih =>
    cases b with
    | nil => simp at hl
    | cons y t =>
      simp only [cmpL]
      rcases Int.lt_trichotomy x y with h | h | h
      · rw [if_pos h]
        simp
        omega
      · rw [if_neg (by omega), if_neg (by omega), ih t (by simpa using hl)]
        simp [h]
      · rw [if_neg (by omega), if_pos h]
        simp
        omega
theorem cmpL_trans (a b c : List Int) (h1 : a.length = b.length) (h2 : b.length = c.length) (hx : cmpL a b < 0) (hy : cmpL b c < 0) : cmpL a c < 0 := by
  induction a generalizing b c with
  | nil =>
    cases b with
    | nil => simp [cmpL] at hx
    | cons y t => simp at h1
  | cons x r ih =>
    cases b with
    | nil => simp at h1
    | cons y t =>
      cases c with
      | nil => simp at h2
      | cons z s =>
        simp only [cmpL] at *
        rcases Int.lt_trichotomy x y with h | h | h
        · rcases Int.lt_trichotomy y z with h' | h' | h'
          · rw [if_pos (by omega)]; omega
          · rw [if_pos (by omega)]; omega
          · rw [if_neg (by omega), if_pos h'] at hy; omega
        · rw [if_neg (by omega), if_neg (by omega)] at hx
          rcases Int.lt_trichotomy y z with h' | h' | h'
          · rw [if_pos (by omega)]; omega
          · rw [if_neg (by omega), if_neg (by omega)] at hy
            rw [if_neg (by omega), if_neg (by omega)]
            exact ih t s (by simpa using h1) (by simpa using h2) hx hy
          · rw [if_neg (by omega), if_pos h'] at hy; omega
        · rw [if_neg (by omega), if_pos h] at hx; omega
theorem cmpU_zero {ts td tp tq ts' td' tp' tq' : Int} (H : UNums ts td tp tq) (H' : UNums ts' td' tp' tq') : cmpU ts td tp tq ts' td' tp' tq' = 0 ↔ ts = ts' ∧ td = td' ∧ tp = tp' ∧ tq = tq' := by
  unfold cmpU
  rw [cmpL_zero (tupB ts td tp tq) (tupB ts' td' tp' tq') (by rw [tupB_length, tupB_length])]
  refine ⟨tupB_inj H H', ?_⟩
  rintro ⟨rfl, rfl, rfl, rfl⟩
  rfl
theorem cmpT_swap (a b : Tup) : cmpT b a = - cmpT a b := cmpL_swap _ _
theorem cmpT_trans (a b c : Tup) (h1 : cmpT a b < 0) (h2 : cmpT b c < 0) : cmpT a c < 0 := cmpL_trans (tupB a.1 a.2.1 a.2.2.1 a.2.2.2) (tupB b.1 b.2.1 b.2.2.1 b.2.2.2) (tupB c.1 c.2.1 c.2.2.1 c.2.2.2) (by rw [tupB_length, tupB_length]) (by rw [tupB_length, tupB_length]) h1 h2
theorem cmpT_zero {a b : Tup} (h : a.ok) (h' : b.ok) : cmpT a b = 0 ↔ a = b := by
  unfold cmpT
  rw [cmpU_zero h h']
  obtain ⟨a1, a2, a3, a4⟩ := a
  obtain ⟨b1, b2, b3, b4⟩ := b
  simp

/-- Sorting: as often. -/
theorem insT_perm (us : List Tup) (u : Tup) : (insT us u).Perm (u :: us) := by
  unfold insT
  have e : us = us.take (kOf u us us.length) ++ us.drop (kOf u us us.length) := (List.take_append_drop _ _).symm
  rw [List.append_assoc]
  refine (List.perm_middle (l₁ := us.take (kOf u us us.length)) (a := u) (l₂ := us.drop (kOf u us us.length))).trans ?_
  rw [← e]
theorem foldl_insT_perm (us out : List Tup) : (us.foldl insT out).Perm (us.reverse ++ out) := by
  induction us generalizing out with
  | nil => simp
  | cons u r ih =>
    simp only [List.foldl_cons, List.reverse_cons, List.append_assoc, List.singleton_append]
    exact (ih _).trans ((insT_perm out u).append_left _)
theorem sortT_perm (us : List Tup) : (sortT us).Perm us := by
  have := foldl_insT_perm us []
  rw [List.append_nil] at this
  exact this.trans (List.reverse_perm us)
theorem sortT_count (us : List Tup) (u : Tup) : (sortT us).count u = us.count u := (sortT_perm us).count_eq u

/-- Sorting: nothing falls. -/
theorem cmpL_le_trans (a b c : List Int) (h1 : a.length = b.length) (h2 : b.length = c.length) (hx : cmpL a b ≤ 0) (hy : cmpL b c ≤ 0) : cmpL a c ≤ 0 := by
  have e1 := cmpL_zero a b h1
  have e2 := cmpL_zero b c h2
  by_cases z1 : cmpL a b = 0
  · rw [e1.1 z1]
    exact hy
  by_cases z2 : cmpL b c = 0
  · rw [← e2.1 z2]
    exact hx
  have := cmpL_trans a b c h1 h2 (by omega) (by omega)
  omega
def leT (a b : Tup) : Prop := cmpT a b ≤ 0
theorem leT_trans {a b c : Tup} (h1 : leT a b) (h2 : leT b c) : leT a c :=
  cmpL_le_trans (tupB a.1 a.2.1 a.2.2.1 a.2.2.2) (tupB b.1 b.2.1 b.2.2.1 b.2.2.2) (tupB c.1 c.2.1 c.2.2.1 c.2.2.2) (by rw [tupB_length, tupB_length]) (by rw [tupB_length, tupB_length]) h1 h2
theorem leT_iff {a b : Tup} : leT a b ↔ ¬ cmpT b a < 0 := by
  unfold leT
  rw [cmpT_swap a b]
  omega
theorem kOf_spec (u : Tup) (us : List Tup) (n : Nat) : (∀ j, kOf u us n ≤ j → j < n → cmpT u (us[j]?.getD tup0) < 0) ∧ (0 < kOf u us n → ¬ cmpT u (us[kOf u us n - 1]?.getD tup0) < 0) := by
  induction n with
  | zero => exact ⟨fun j _ h => by omega, fun h => by simp [kOf] at h⟩
  | succ n ih =>
    simp only [kOf]
    split
    next h =>
      refine ⟨fun j h1 h2 => ?_, ih.2⟩
      rcases Nat.lt_or_ge j n with h3 | h3
      · exact ih.1 j h1 h3
      · obtain rfl : j = n := by omega
        exact h
    next h => exact ⟨fun j h1 h2 => by omega, fun _ => by simpa using h⟩
theorem insT_sorted {us : List Tup} (u : Tup) (h : us.Pairwise leT) : (insT us u).Pairwise leT := by
  have hk := kOf_le u us us.length
  obtain ⟨s1, s2⟩ := kOf_spec u us us.length
  unfold insT
  generalize kOf u us us.length = k at *
  have hsplit := List.pairwise_append.1 (by rw [List.take_append_drop k us]; exact h : (us.take k ++ us.drop k).Pairwise leT)
  have hA : ∀ a ∈ us.take k, leT a u := by
    intro a ha
    obtain ⟨i, hi, rfl⟩ := List.getElem_of_mem ha
    have hi' : i < k ∧ i < us.length := by simp at hi; omega
    have hlast : leT (us[k - 1]?.getD tup0) u := leT_iff.2 (s2 (by omega))
    rw [List.getElem?_eq_getElem (by omega)] at hlast
    simp only [Option.getD_some, List.getElem_take] at *
    rcases Nat.lt_or_ge i (k - 1) with h3 | h3
    · exact leT_trans (List.pairwise_iff_getElem.1 h i (k - 1) (by omega) (by omega) h3) hlast
    · have e : i = k - 1 := by omega
      subst e
      exact hlast
  have hB : ∀ b ∈ us.drop k, leT u b := by
    intro b hb
    obtain ⟨i, hi, rfl⟩ := List.getElem_of_mem hb
    have hi' : k + i < us.length := by simp at hi; omega
    have := s1 (k + i) (by omega) hi'
    rw [List.getElem?_eq_getElem hi'] at this
    simp only [Option.getD_some, List.getElem_drop] at *
    unfold leT
    omega
  rw [List.append_assoc, List.pairwise_append]
  refine ⟨hsplit.1, ?_, ?_⟩
  · rw [List.singleton_append, List.pairwise_cons]
    exact ⟨hB, hsplit.2.1⟩
  · intro a ha b hb
    rw [List.singleton_append, List.mem_cons] at hb
    rcases hb with rfl | hb
    · exact hA a ha
    · exact hsplit.2.2 a ha b hb
theorem foldl_insT_sorted (us out : List Tup) (h : out.Pairwise leT) : (us.foldl insT out).Pairwise leT := by
  induction us generalizing out with
  | nil => exact h
  | cons u r ih => exact ih _ (insT_sorted u h)
theorem sortT_sorted (us : List Tup) : (sortT us).Pairwise leT := foldl_insT_sorted us [] List.Pairwise.nil
/-- What is sorted of the same tuples is the same. -/
theorem sorted_unique {a b : List Tup} (ha : ∀ x ∈ a, Tup.ok x) (hp : a.Perm b) (h1 : a.Pairwise leT) (h2 : b.Pairwise leT) : a = b := by
  refine List.Perm.eq_of_pairwise (le := leT) ?_ h1 h2 hp
  intro x y hx hy h3 h4
  have hy' := ha y (hp.mem_iff.2 hy)
  refine (cmpT_zero (ha x hx) hy').1 ?_
  have := cmpT_swap x y
  unfold leT at h3 h4
  omega
end Go.Proofs.Ytklmlpnccbmpnaa
