/- Loads: plain facts: as many as buckets are that one's, as many together as rows with a Cur, how far two of them are apart at most. -/
import Derived.Test.YtanbkbppahgbgaaTbK
import Derived.Test.YtanbkbppahgbgaaTbH
namespace Go.Proofs.Ytanbkbppahgbgaa
open Go.RowKit Go.Shelf
open SumM

theorem of_len (T : Nat → Int) (c : Nat) (hc : c < 6) : ∀ k : Nat, ((selI (ofP T (c : Int)) (List.range k)).length : Int) = lodT T k c
  | 0 => by simp [selI, lodT, zeroT]
  | k + 1 => by
    have ih := of_len T c hc k
    by_cases h : ofP T (c : Int) k = true
    · have hk : (rowT T k).1 = (c : Int) := by simpa [ofP] using h
      rw [selI_yes h, List.length_append, lodT_yes hk hc]
      unfold upd
      rw [if_pos rfl]
      simp only [List.length_cons, List.length_nil]
      omega
    · have hk : (rowT T k).1 ≠ (c : Int) := by
        intro e
        exact h (by simp [ofP, e])
      rw [selI_no (by simpa using h), ih, lodT]
      split
      · unfold upd
        rw [if_neg (by omega)]
      · rfl
/-- How many rows below k have a Cur. -/
def owT (T : Nat → Int) : Nat → Int
  | 0 => 0
  | k + 1 => if 0 ≤ (rowT T k).1 then owT T k + 1 else owT T k
theorem owT_in (T : Nat → Int) : ∀ k : Nat, 0 ≤ owT T k ∧ owT T k ≤ k
  | 0 => by simp [owT]
  | k + 1 => by
    have := owT_in T k
    rw [owT]
    split <;> omega
/-- The sum of the first i. -/
def psum (f : Nat → Int) : Nat → Int
  | 0 => 0
  | i + 1 => psum f i + f i
theorem psum_in {f : Nat → Int} (h : ∀ c, 0 ≤ f c ∧ f c ≤ 16) : ∀ i : Nat, 0 ≤ psum f i ∧ psum f i ≤ 16 * i
  | 0 => by simp [psum]
  | i + 1 => by
    have := psum_in h i
    have := h i
    rw [psum]
    omega
theorem psum_upd (f : Nat → Int) (j : Nat) (hj : j < 6) : psum (upd f j (f j + 1)) 6 = psum f 6 + 1 := by
  have : j = 0 ∨ j = 1 ∨ j = 2 ∨ j = 3 ∨ j = 4 ∨ j = 5 := by omega
  rcases this with rfl | rfl | rfl | rfl | rfl | rfl <;> simp [psum, upd] <;> omega
theorem psum_ow (T : Nat → Int) : ∀ k : Nat, (∀ i, i < k → (rowT T i).1 < 6) → psum (lodT T k) 6 = owT T k
  | 0, _ => by simp [psum, lodT, zeroT, owT]
  | k + 1, h => by
    have ih := psum_ow T k (fun i hi => h i (by omega))
    have hk := h k (by omega)
    by_cases h0 : 0 ≤ (rowT T k).1
    · obtain ⟨j, hj⟩ : ∃ j : Nat, (rowT T k).1 = (j : Int) := ⟨(rowT T k).1.toNat, by omega⟩
      rw [lodT_yes hj (by omega), psum_upd _ _ (by omega), ih, owT, if_pos h0]
    · rw [lodT_no (by omega), ih, owT, if_neg h0]
theorem rgT_cur {T : Nat → Int} (h : rgT T = true) (i : Nat) (hi : i < 16) : (rowT T i).1 < 6 := by
  have := (rgT_iff.1 h).2 i hi
  exact (rgt_iff.1 this).1.2

/-- What is known of the greatest difference so far. -/
structure PM (s : Int) (L : Nat → Int) (i k : Nat) (m : Int) : Prop where
  pos : 0 ≤ m
  all : ∀ a c : Nat, (a < i ∧ c < 6 ∨ a = i ∧ c < k) → bt s a = true → bt s c = true → L a - L c ≤ m
  one : m = 0 ∨ ∃ a c : Nat, a < 6 ∧ c < 6 ∧ bt s a = true ∧ bt s c = true ∧ m = L a - L c
theorem PM.start (s : Int) (L : Nat → Int) : PM s L 0 0 0 := ⟨Int.le_refl _, fun _ _ h => by omega, .inl rfl⟩
theorem PM.yes {s : Int} {L : Nat → Int} {i k : Nat} {m : Int} (h : PM s L i k m) (hi : i < 6) (hk : k < 6) (b1 : bt s i = true) (b2 : bt s k = true) : PM s L i (k + 1) (max m (L i - L k)) := by
  refine ⟨by have := h.pos; omega, fun a c hac h1 h2 => ?_, ?_⟩
  · by_cases he : a = i ∧ c = k
    · obtain ⟨rfl, rfl⟩ := he
      omega
    · have := h.all a c (by omega) h1 h2
      omega
  · by_cases hm : m < L i - L k
    · exact .inr ⟨i, k, hi, hk, b1, b2, by omega⟩
    · rw [show max m (L i - L k) = m by omega]
      exact h.one
theorem PM.no {s : Int} {L : Nat → Int} {i k : Nat} {m : Int} (h : PM s L i k m) (hb : ¬ (bt s i = true ∧ bt s k = true)) : PM s L i (k + 1) m := by
  refine ⟨h.pos, fun a c hac h1 h2 => ?_, h.one⟩
  by_cases he : a = i ∧ c = k
  · obtain ⟨rfl, rfl⟩ := he
    exact absurd ⟨h1, h2⟩ hb
  · exact h.all a c (by omega) h1 h2
theorem PM.next {s : Int} {L : Nat → Int} {i : Nat} {m : Int} (h : PM s L i 6 m) : PM s L (i + 1) 0 m :=
  ⟨h.pos, fun a c hac h1 h2 => h.all a c (by omega) h1 h2, h.one⟩
theorem foldMax_mem (xs : List Int) : ∀ a, xs.foldl max a = a ∨ xs.foldl max a ∈ xs := by
  induction xs with
  | nil => intro a; exact .inl rfl
  | cons y ys ih =>
    intro a
    rw [List.foldl_cons]
    rcases ih (max a y) with h | h
    · rw [h]
      by_cases hy : a < y
      · exact .inr (by rw [show max a y = y by omega]; simp)
      · exact .inl (by omega)
    · exact .inr (by simp [h])
theorem foldMin_mem (xs : List Int) : ∀ a, xs.foldl min a = a ∨ xs.foldl min a ∈ xs := by
  induction xs with
  | nil => intro a; exact .inl rfl
  | cons y ys ih =>
    intro a
    rw [List.foldl_cons]
    rcases ih (min a y) with h | h
    · rw [h]
      by_cases hy : y < a
      · exact .inr (by rw [show min a y = y by omega]; simp)
      · exact .inl (by omega)
    · exact .inr (by simp [h])
theorem pkL_mem {s : Int} {L : Nat → Int} {x : Int} : x ∈ pkL s L 6 ↔ ∃ c : Nat, c < 6 ∧ bt s c = true ∧ x = L c := by
  simp only [pkL, List.mem_map, List.mem_filter, List.mem_range]
  constructor
  · rintro ⟨c, ⟨h1, h2⟩, rfl⟩
    exact ⟨c, h1, h2, rfl⟩
  · rintro ⟨c, h1, h2, rfl⟩
    exact ⟨c, ⟨h1, h2⟩, rfl⟩
/-- At the end it is the spread. -/
theorem PM.apart {s : Int} {L : Nat → Int} {m : Int} (hL : ∀ c, 0 ≤ L c ∧ L c ≤ 16) (h : PM s L 6 0 m) : apart (pkL s L 6) = m := by
  have hin := pkL_in (s := s) hL 6
  have hmx := foldMax_in (pkL s L 6) hin (-1) (by omega)
  have hmn := foldMin_in (pkL s L 6) hin 16 (by omega)
  unfold Go.Proofs.Ytanbkbppahgbgaa.apart mostF leastF
  rcases foldMax_mem (pkL s L 6) (-1) with e1 | e1
  · have hno : ∀ c : Nat, c < 6 → bt s c = true → False := fun c hc hb => by
      have h1 := hmx.2.2 (L c) (pkL_mem.2 ⟨c, hc, hb, rfl⟩)
      have h2 := hL c
      omega
    rcases h.one with h0 | ⟨a, c, ha, hc, b1, b2, _⟩
    · omega
    · exact absurd b1 (fun b => hno a ha b)
  · obtain ⟨a, ha, ba, ea⟩ := pkL_mem.1 e1
    rcases foldMin_mem (pkL s L 6) 16 with e2 | e2
    · have h1 := hmn.2.2 (L a) (pkL_mem.2 ⟨a, ha, ba, rfl⟩)
      have h2 := hL a
      have h3 := hmx.2.1
      have h4 := h.all a a (by omega) ba ba
      rcases h.one with h0 | ⟨a', c', ha', hc', b1, b2, e⟩
      · omega
      · have h5 := hmx.2.2 (L a') (pkL_mem.2 ⟨a', ha', b1, rfl⟩)
        have h6 := hmn.2.2 (L c') (pkL_mem.2 ⟨c', hc', b2, rfl⟩)
        omega
    · obtain ⟨c, hc, bc, ec⟩ := pkL_mem.1 e2
      have h1 := h.all a c (by omega) ba bc
      have h2 := hmn.2.2 (L a) (pkL_mem.2 ⟨a, ha, ba, rfl⟩)
      rcases h.one with h0 | ⟨a', c', ha', hc', b1, b2, e⟩
      · omega
      · have h5 := hmx.2.2 (L a') (pkL_mem.2 ⟨a', ha', b1, rfl⟩)
        have h6 := hmn.2.2 (L c') (pkL_mem.2 ⟨c', hc', b2, rfl⟩)
        omega
end Go.Proofs.Ytanbkbppahgbgaa
