/- Snapshots and deltas: plain facts. -/
import Derived.Test.YthgoopdekllanaaShI
import Derived.Test.YthgoopdekllanaaShN
namespace Go.Proofs.Ythgoopdekllanaa
open Go.RowKit Go.Shelf
open SumM

def mapS (U : Nat → Int) (L : List Nat) : List SR := L.map fun i : Nat => ((i : Int), rowT U i)
def chL (T U : Nat → Int) : List Nat := (List.range 16).filter (chP T U)
theorem chS_map (T U : Nat → Int) : chS T U = mapS U (chL T U) := by
  unfold chS selI mapS chL
  rw [List.map_map]
  rfl
theorem allS_map (T : Nat → Int) : allS T = mapS T (List.range 16) := rfl
theorem rises_map {U : Nat → Int} (hU : ∀ i, i < 16 → rgE (rowT U i) = true) : ∀ (L : List Nat) (l : Int), L.Pairwise (· < ·) → (∀ i ∈ L, i < 16 ∧ l < (i : Int)) → rises l (mapS U L) = true
  | [], _, _, _ => rfl
  | i :: t, l, hp, h => by
    obtain ⟨h1, h2⟩ := h i (by simp)
    show (decide (l < (i : Int)) && decide ((i : Int) < 16) && rgE (rowT U i) && rises (i : Int) (mapS U t)) = true
    rw [rises_map hU t i (List.pairwise_cons.1 hp).2 (fun j hj => ⟨(h j (by simp [hj])).1, by have := (List.pairwise_cons.1 hp).1 j hj; omega⟩), hU i h1, decide_eq_true h2, decide_eq_true (by omega : (i : Int) < 16)]
    rfl
theorem chL_lt {T U : Nat → Int} {i : Nat} (h : i ∈ chL T U) : i < 16 ∧ chP T U i = true := by
  simp only [chL, List.mem_filter, List.mem_range] at h
  exact h
theorem chL_pair (T U : Nat → Int) : (chL T U).Pairwise (· < ·) := List.Pairwise.filter _ List.pairwise_lt_range
theorem chL_len (T U : Nat → Int) : (chL T U).length ≤ 16 := Nat.le_trans (List.length_filter_le _ _) (by simp)
theorem shOk_ch {T U : Nat → Int} (hT : rgT T = true) (hU : rgT U = true) (hlt : T 0 < U 0) : shOk (T 0) (U 0) (chS T U) = true := by
  obtain ⟨⟨t1, t2⟩, _⟩ := rgT_iff.1 hT
  obtain ⟨⟨u1, u2⟩, u3⟩ := rgT_iff.1 hU
  unfold shOk
  rw [chS_map, rises_map u3 _ _ (chL_pair T U) (fun i hi => ⟨(chL_lt hi).1, by omega⟩)]
  simp
  omega
theorem shOk_all {T : Nat → Int} (hT : rgT T = true) : shOk (-1) (T 0) (allS T) = true := by
  obtain ⟨⟨t1, t2⟩, t3⟩ := rgT_iff.1 hT
  unfold shOk
  rw [allS_len, allS_map, rises_map t3 _ _ List.pairwise_lt_range (fun i hi => ⟨List.mem_range.1 hi, by omega⟩)]
  simp
  omega
/-- The elder table with some rows of the newer one. -/
def mixL (T U : Nat → Int) (L : List Nat) : Nat → Int := fun o => if o = 0 then U 0 else if (o - 1) / 4 ∈ L then U o else T o
theorem mixL_zero (T U : Nat → Int) : mixL T U [] = upd T 0 (U 0) := by
  funext o
  unfold mixL upd
  by_cases h : o = 0 <;> simp [h]
theorem mixL_at {T U : Nat → Int} {L : List Nat} {b : Nat} (h : b ∉ L) (j : Nat) (hj : j < 4) : mixL T U L (1 + b * 4 + j) = T (1 + b * 4 + j) := by
  unfold mixL
  rw [if_neg (by omega), show (1 + b * 4 + j - 1) / 4 = b by omega, if_neg h]
theorem mixL_snoc (T U : Nat → Int) (L : List Nat) (b : Nat) : setR (mixL T U L) b (rowT U b) = mixL T U (L ++ [b]) := by
  funext o
  unfold setR rowT upd mixL
  simp only
  by_cases h3 : o = 1 + b * 4 + 3
  · subst h3
    rw [if_pos rfl, if_neg (by omega), if_pos (by rw [show (1 + b * 4 + 3 - 1) / 4 = b by omega]; simp)]
  rw [if_neg h3]
  by_cases h2 : o = 1 + b * 4 + 2
  · subst h2
    rw [if_pos rfl, if_neg (by omega), if_pos (by rw [show (1 + b * 4 + 2 - 1) / 4 = b by omega]; simp)]
  rw [if_neg h2]
  by_cases h1 : o = 1 + b * 4 + 1
  · subst h1
    rw [if_pos rfl, if_neg (by omega), if_pos (by rw [show (1 + b * 4 + 1 - 1) / 4 = b by omega]; simp)]
  rw [if_neg h1]
  by_cases h0 : o = 1 + b * 4
  · subst h0
    rw [if_pos rfl, if_neg (by omega), if_pos (by rw [show (1 + b * 4 - 1) / 4 = b by omega]; simp)]
  rw [if_neg h0]
  by_cases hz : o = 0
  · rw [if_pos hz, if_pos hz]
  · rw [if_neg hz, if_neg hz]
    have : (o - 1) / 4 ≠ b := by omega
    simp [List.mem_append, this]
theorem mixL_all (T U : Nat → Int) : eqN 65 (mixL T U (chL T U)) U = true := eqN_iff.2 fun o ho => by
  unfold mixL
  by_cases hz : o = 0
  · rw [if_pos hz, hz]
  rw [if_neg hz]
  by_cases hm : (o - 1) / 4 ∈ chL T U
  · rw [if_pos hm]
  · rw [if_neg hm]
    have hn : chP T U ((o - 1) / 4) = false := by
      rw [Bool.eq_false_iff]
      intro hc
      exact hm (by simp only [chL, List.mem_filter, List.mem_range]; exact ⟨by omega, hc⟩)
    have he : rowT T ((o - 1) / 4) = rowT U ((o - 1) / 4) := by simpa [chP] using hn
    generalize hb : (o - 1) / 4 = b at *
    unfold rowT at he
    simp only [Prod.mk.injEq] at he
    have hc : o = 1 + b * 4 ∨ o = 1 + b * 4 + 1 ∨ o = 1 + b * 4 + 2 ∨ o = 1 + b * 4 + 3 := by omega
    rcases hc with rfl | rfl | rfl | rfl
    · exact he.1
    · exact he.2.1
    · exact he.2.2.1
    · exact he.2.2.2
theorem mapS_len (U : Nat → Int) (L : List Nat) : (mapS U L).length = L.length := by simp [mapS]
theorem mapS_get {U : Nat → Int} {L : List Nat} {k : Nat} (h : k < L.length) : (mapS U L)[k]?.getD sr0 = (((L[k]'h : Nat) : Int), rowT U (L[k]'h)) := by simp [mapS, h]
theorem nodup_take {L : List Nat} (hp : L.Pairwise (· < ·)) {k : Nat} (h : k < L.length) : L[k] ∉ L.take k := by
  intro hm
  obtain ⟨i, hi, he⟩ := List.mem_take_iff_getElem.1 hm
  have hi' : i < k := by omega
  have := List.pairwise_iff_getElem.1 hp i k (by omega) h hi'
  omega
end Go.Proofs.Ythgoopdekllanaa
