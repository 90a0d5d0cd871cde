/- Plain facts of tuples' texts: what they are made of, and that they tell tuples apart. -/
import Derived.Test.YtklmlpnccbmpnaaTupMath
namespace Go.Proofs.Ytklmlpnccbmpnaa
open Go.RowKit Go.Shelf
open SumM

def Digits (l : List Int) : Prop := ∀ x ∈ l, 48 ≤ x ∧ x ≤ 57
theorem decL_digits (n : Nat) : Digits (decL n) := by
  induction n using Nat.strongRecOn with
  | _ n ih =>
    rw [decL]
    split
    · intro x hx
      simp at hx
      omega
    · intro x hx
      rcases List.mem_append.1 hx with h | h
      · exact ih (n / 10) (by omega) x h
      · exact ih (n % 10) (by omega) x h
def decVal (l : List Int) : Int := l.foldl (fun n v => n * 10 + (v - 48)) 0
theorem decVal_snoc (l : List Int) (x : Int) : decVal (l ++ [x]) = decVal l * 10 + (x - 48) := by simp [decVal]
theorem decVal_decL (n : Nat) : decVal (decL n) = n := by
  induction n using Nat.strongRecOn with
  | _ n ih =>
    rw [decL]
    split
    · simp [decVal]
      omega
    · rw [show decL (n % 10) = [48 + ((n % 10 : Nat) : Int)] by rw [decL, if_pos (by omega)], decVal_snoc, ih (n / 10) (by omega)]
      omega
theorem decL_inj {a b : Nat} (h : decL a = decL b) : a = b := by
  have e1 := decVal_decL a
  have e2 := decVal_decL b
  rw [h, e2] at e1
  omega
theorem sep_inj {d1 d2 r1 r2 : List Int} {s : Int} (h1 : Digits d1) (h2 : Digits d2) (hs : ¬ (48 ≤ s ∧ s ≤ 57)) (h : d1 ++ s :: r1 = d2 ++ s :: r2) : d1 = d2 ∧ r1 = r2 := by
  induction d1 generalizing d2 with
  | nil =>
    cases d2 with
    | nil => simpa using h
    | cons y t =>
      simp only [List.nil_append, List.cons_append, List.cons.injEq] at h
      have := h2 y (by simp)
      omega
  | cons x r ih =>
    cases d2 with
    | nil =>
      simp only [List.nil_append, List.cons_append, List.cons.injEq] at h
      have := h1 x (by simp)
      omega
    | cons y t =>
      simp only [List.cons_append, List.cons.injEq] at h
      obtain ⟨h3, h4⟩ := ih (fun z hz => h1 z (by simp [hz])) (fun z hz => h2 z (by simp [hz])) h.2
      exact ⟨by rw [h.1, h3], h4⟩
/-- An end's text, written out, with what follows. -/
theorem endL_form (a p : Int) : endL a p = decL (a / 16777216 % 256).toNat ++ 46 :: (decL (a / 65536 % 256).toNat ++ 46 :: (decL (a / 256 % 256).toNat ++ 46 :: (decL (a % 256).toNat ++ 58 :: decL p.toNat))) := by
  simp [endL, dotL]
theorem textL_form (ts td tp tq : Int) : textL ts td tp tq = decL (ts / 16777216 % 256).toNat ++ 46 :: (decL (ts / 65536 % 256).toNat ++ 46 :: (decL (ts / 256 % 256).toNat ++ 46 :: (decL (ts % 256).toNat ++ 58 :: (decL tp.toNat ++ 62 :: endL td tq)))) := by
  simp [textL, endL_form]
theorem endL_inj {a p a' p' : Int} (ha : 0 ≤ a ∧ a ≤ 4294967295) (hp : 0 ≤ p ∧ p ≤ 65535) (ha' : 0 ≤ a' ∧ a' ≤ 4294967295) (hp' : 0 ≤ p' ∧ p' ≤ 65535) (h : endL a p = endL a' p') : a = a' ∧ p = p' := by
  rw [endL_form, endL_form] at h
  obtain ⟨e1, h⟩ := sep_inj (decL_digits _) (decL_digits _) (by decide) h
  obtain ⟨e2, h⟩ := sep_inj (decL_digits _) (decL_digits _) (by decide) h
  obtain ⟨e3, h⟩ := sep_inj (decL_digits _) (decL_digits _) (by decide) h
  obtain ⟨e4, h⟩ := sep_inj (decL_digits _) (decL_digits _) (by decide) h
  have e1 := decL_inj e1
  have e2 := decL_inj e2
  have e3 := decL_inj e3
  have e4 := decL_inj e4
  have e5 := decL_inj h
  exact ⟨by omega, by omega⟩
theorem textL_inj {ts td tp tq ts' td' tp' tq' : Int} (H : UNums ts td tp tq) (H' : UNums ts' td' tp' tq') (h : textL ts td tp tq = textL ts' td' tp' tq') : ts = ts' ∧ td = td' ∧ tp = tp' ∧ tq = tq' := by
  rw [textL_form, textL_form] at h
  obtain ⟨e1, h⟩ := sep_inj (decL_digits _) (decL_digits _) (by decide) h
  obtain ⟨e2, h⟩ := sep_inj (decL_digits _) (decL_digits _) (by decide) h
  obtain ⟨e3, h⟩ := sep_inj (decL_digits _) (decL_digits _) (by decide) h
  obtain ⟨e4, h⟩ := sep_inj (decL_digits _) (decL_digits _) (by decide) h
  obtain ⟨e5, h⟩ := sep_inj (decL_digits _) (decL_digits _) (by decide) h
  obtain ⟨e6, e7⟩ := endL_inj H.h2 H.h4 H'.h2 H'.h4 h
  have e1 := decL_inj e1
  have e2 := decL_inj e2
  have e3 := decL_inj e3
  have e4 := decL_inj e4
  have e5 := decL_inj e5
  have := H.h1
  have := H'.h1
  have := H.h3
  have := H'.h3
  exact ⟨by omega, e6, by omega, e7⟩
/-- What a text is made of. -/
theorem digits_count {l : List Int} (h : Digits l) {s : Int} (hs : ¬ (48 ≤ s ∧ s ≤ 57)) : l.count s = 0 := List.count_eq_zero.2 fun hm => hs (h s hm)
theorem decL_count (n : Nat) {s : Int} (hs : ¬ (48 ≤ s ∧ s ≤ 57)) : (decL n).count s = 0 := digits_count (decL_digits n) hs
theorem textL_dots (ts td tp tq : Int) : (textL ts td tp tq).count 46 = 6 := by
  rw [textL_form, endL_form]
  simp [List.count_append, decL_count]
theorem textL_colons (ts td tp tq : Int) : (textL ts td tp tq).count 58 = 2 := by
  rw [textL_form, endL_form]
  simp [List.count_append, decL_count]
theorem textL_more (ts td tp tq : Int) : (textL ts td tp tq).count 62 = 1 := by
  rw [textL_form, endL_form]
  simp [List.count_append, decL_count]
theorem textL_signs (ts td tp tq : Int) : ∀ x ∈ textL ts td tp tq, x = 46 ∨ x = 58 ∨ x = 62 ∨ (48 ≤ x ∧ x ≤ 57) := by
  intro x hx
  have D := fun n => decL_digits n x
  rw [textL_form, endL_form] at hx
  simp only [List.mem_append, List.mem_cons] at hx
  have : ∀ n, x ∈ decL n → x = 46 ∨ x = 58 ∨ x = 62 ∨ (48 ≤ x ∧ x ≤ 57) := fun n h => .inr (.inr (.inr (D n h)))
  rcases hx with h | h | h | h | h | h | h | h | h | h | h | h | h | h | h | h | h | h | h
  all_goals first | exact this _ h | (subst h; simp)
theorem textL_in (ts td tp tq : Int) : In 255 (textL ts td tp tq) := by
  intro x hx
  have := textL_signs ts td tp tq x hx
  omega
/-- Two texts are the same just if the tuples are. -/
theorem textL_eq {a b : Tup} (h : a.ok) (h' : b.ok) : eqB (textL a.1 a.2.1 a.2.2.1 a.2.2.2) (textL b.1 b.2.1 b.2.2.1 b.2.2.2) = decide (a = b) := by
  unfold eqB
  congr 1
  rw [eq_iff_iff]
  refine ⟨fun e => ?_, fun e => by rw [e]⟩
  obtain ⟨e1, e2, e3, e4⟩ := textL_inj h h' e
  obtain ⟨a1, a2, a3, a4⟩ := a
  obtain ⟨b1, b2, b3, b4⟩ := b
  simp_all
end Go.Proofs.Ytklmlpnccbmpnaa
