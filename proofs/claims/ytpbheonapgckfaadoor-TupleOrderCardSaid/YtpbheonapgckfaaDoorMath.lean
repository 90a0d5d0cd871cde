/- Plain facts on words, sums of words and the end-around carry, over lists of integers. Nothing of the program is imported. -/
import Derived.Below
namespace Go.Proofs.YtpbheonapgckfaaDoor.SumM

/-- The sum of words, as a number from 0 to 65535: 0 for 0, else the rest by 65535 with 65535 for 0. -/
def cr (n : Int) : Int := if n = 0 then 0 else (n - 1) % 65535 + 1
/-- All numbers of a list, added. -/
def tot : List Int → Int
  | [] => 0
  | x :: r => x + tot r
/-- Word number k of bytes. -/
def wordAt (bs : List Int) (k : Nat) : Int := 256 * (bs[2 * k]?.getD 0) + (bs[2 * k + 1]?.getD 0)
/-- The words of bytes. -/
def upto (f : Nat → Int) (k : Nat) : List Int := (List.range k).map f
def words (bs : List Int) : List Int := upto (wordAt bs) ((bs.length + 1) / 2)
/-- The sum of bytes. -/
def sumOf (bs : List Int) : Int := cr (tot (words bs))
/-- All numbers of a list are from 0 to m. -/
def In (m : Int) (l : List Int) : Prop := ∀ x ∈ l, 0 ≤ x ∧ x ≤ m

theorem upto_succ (f : Nat → Int) (k : Nat) : upto f (k + 1) = upto f k ++ [f k] := by simp [upto, List.range_succ]
theorem upto_length (f : Nat → Int) (k : Nat) : (upto f k).length = k := by simp [upto]
theorem upto_get (f : Nat → Int) (k i : Nat) (h : i < k) : (upto f k)[i]? = some (f i) := by simp [upto, h]
theorem words_length (bs : List Int) : (words bs).length = (bs.length + 1) / 2 := upto_length _ _

theorem tot_append (a b : List Int) : tot (a ++ b) = tot a + tot b := by
  induction a with
  | nil => simp [tot]
  | cons x r ih => simp only [List.cons_append, tot, ih]; omega
theorem tot_snoc (a : List Int) (x : Int) : tot (a ++ [x]) = tot a + x := by rw [tot_append]; simp [tot]

theorem tot_in {m : Int} (l : List Int) (h : In m l) : 0 ≤ tot l ∧ tot l ≤ m * l.length := by
  induction l with
  | nil => simp [tot]
  | cons x r ih =>
    have hx := h x (by simp)
    have hr := ih (fun y hy => h y (by simp [hy]))
    simp only [tot, List.length_cons]
    have e : m * ((r.length + 1 : Nat) : Int) = m * r.length + m := by rw [Int.natCast_add, Int.mul_add]; simp
    rw [e]
    omega

theorem getD_in {m : Int} {l : List Int} (h : In m l) (hm : 0 ≤ m) (i : Nat) : 0 ≤ l[i]?.getD 0 ∧ l[i]?.getD 0 ≤ m := by
  by_cases hi : i < l.length
  · rw [List.getElem?_eq_getElem hi]; exact h _ (List.getElem_mem hi)
  · rw [List.getElem?_eq_none (by omega)]; exact ⟨Int.le_refl 0, hm⟩

theorem wordAt_in {bs : List Int} (h : In 255 bs) (k : Nat) : 0 ≤ wordAt bs k ∧ wordAt bs k ≤ 65535 := by
  have h1 := getD_in h (by decide) (2 * k)
  have h2 := getD_in h (by decide) (2 * k + 1)
  unfold wordAt
  omega

theorem upto_in {m : Int} {f : Nat → Int} (h : ∀ k, 0 ≤ f k ∧ f k ≤ m) (n : Nat) : In m (upto f n) := by
  intro x hx
  simp only [upto, List.mem_map] at hx
  obtain ⟨k, _, rfl⟩ := hx
  exact h k
theorem words_in {bs : List Int} (h : In 255 bs) : In 65535 (words bs) := upto_in (wordAt_in h) _

theorem cr_in (n : Int) : 0 ≤ cr n ∧ cr n ≤ 65535 := by
  unfold cr
  split <;> omega
theorem cr_small {n : Int} (h0 : 0 ≤ n) (h : n ≤ 65535) : cr n = n := by
  unfold cr
  split <;> omega
/-- One turn of the carry. -/
theorem cr_step {n : Int} (h : 65535 < n) : cr (n % 65536 + n / 65536) = cr n := by
  unfold cr
  have h1 : n % 65536 + n / 65536 = n - 65535 * (n / 65536) := by omega
  split <;> split <;> omega
theorem cr_add {a b : Int} (ha : 0 ≤ a) (hb : 0 ≤ b) : cr (cr a + cr b) = cr (a + b) := by
  unfold cr
  split <;> split <;> split <;> split <;> omega
theorem cr_zero (a : Int) : cr a = 0 ↔ a = 0 := by
  unfold cr
  split <;> omega
theorem cr_acc {a x : Int} (ha : 0 ≤ a) (hx : 0 ≤ x) (hx' : x ≤ 65535) : cr (a + x) = if cr a + x > 65535 then cr a + x - 65535 else cr a + x := by
  unfold cr
  split <;> split <;> split <;> omega
/-- With its check laid in, the sum is 65535. -/
theorem cr_right {a : Int} (ha : 0 ≤ a) : cr (a + (65535 - cr a)) = 65535 := by
  unfold cr
  split <;> split <;> omega
/-- What is near to a right sum, and not it, is not right. -/
theorem cr_near {a d : Int} (ha : cr a = 65535) (h1 : d ≠ 0) (h2 : -65535 < d) (h3 : d < 65535) : cr (a + d) ≠ 65535 := by
  unfold cr at *
  split at ha <;> split <;> omega
theorem cr_change {t o n : Int} (ht : 0 ≤ t - o) (ho : 0 ≤ o) (ho' : o ≤ 65535) (hn : 0 ≤ n) (hn' : n ≤ 65535) (hp : 0 < t - o + n) :
    cr (cr t + (65535 - o) + n) = cr (t - o + n) := by
  unfold cr
  split <;> split <;> split <;> omega

theorem tot_zero (l : List Int) {m : Int} (h : In m l) : tot l = 0 ↔ ∀ x ∈ l, x = 0 := by
  induction l with
  | nil => simp [tot]
  | cons x r ih =>
    have hx := h x (by simp)
    have hr := tot_in r (fun y hy => h y (by simp [hy]))
    have hi := ih (fun y hy => h y (by simp [hy]))
    simp only [tot, List.mem_cons, forall_eq_or_imp]
    constructor
    · intro e
      exact ⟨by omega, hi.1 (by omega)⟩
    · rintro ⟨e, e2⟩
      have := hi.2 e2
      omega

theorem tot_set (l : List Int) (i : Nat) (hi : i < l.length) (v : Int) : tot (l.set i v) = tot l - l[i]?.getD 0 + v := by
  induction l generalizing i with
  | nil => simp at hi
  | cons x r ih =>
    cases i with
    | zero => simp [tot]; omega
    | succ j =>
      simp only [List.length_cons] at hi
      have := ih j (by omega)
      simp only [List.set_cons_succ, tot, this, List.getElem?_cons_succ]
      omega
theorem upto_congr {f g : Nat → Int} {n : Nat} (h : ∀ k, k < n → f k = g k) : upto f n = upto g n := by
  unfold upto
  apply List.map_congr_left
  intro k hk
  exact h k (by simpa using hk)
/-- Two noughts behind an even number of bytes. -/
theorem sum_zeros (bs : List Int) (h : bs.length % 2 = 0) : sumOf (bs ++ [0, 0]) = sumOf bs := by
  unfold sumOf words
  have e : ((bs ++ [0, 0]).length + 1) / 2 = (bs.length + 1) / 2 + 1 := by simp; omega
  rw [e, upto_succ, tot_snoc]
  have e1 : upto (wordAt (bs ++ [0, 0])) ((bs.length + 1) / 2) = upto (wordAt bs) ((bs.length + 1) / 2) := by
    apply upto_congr
    intro k hk
    unfold wordAt
    rw [List.getElem?_append_left (by omega), List.getElem?_append_left (by omega)]
  have e2 : wordAt (bs ++ [0, 0]) ((bs.length + 1) / 2) = 0 := by
    unfold wordAt
    rw [List.getElem?_append_right (by omega), List.getElem?_append_right (by omega)]
    have h1 : 2 * ((bs.length + 1) / 2) - bs.length = 0 := by omega
    have h2 : 2 * ((bs.length + 1) / 2) + 1 - bs.length = 1 := by omega
    rw [h1, h2]
    rfl
  rw [e1, e2, Int.add_zero]
end Go.Proofs.YtpbheonapgckfaaDoor.SumM
