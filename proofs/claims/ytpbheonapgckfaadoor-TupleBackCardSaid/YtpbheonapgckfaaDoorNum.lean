/- Numbers of bytes, bytes of numbers, the highest byte first. Nothing of the program is named. -/
import Derived.Test.YtpbheonapgckfaaDoorGen
namespace Go.Proofs.YtpbheonapgckfaaDoor
open SumM

/-- A number of bytes, the highest one first. -/
def numOf (l : List Int) : Int := l.foldl (fun n v => n * 256 + v) 0

theorem numOf_snoc (l : List Int) (x : Int) : numOf (l ++ [x]) = numOf l * 256 + x := by simp [numOf]

theorem numOf_acc (l : List Int) (h : In 255 l) : ∀ acc : Int, 0 ≤ acc → 0 ≤ l.foldl (fun n v => n * 256 + v) acc ∧ l.foldl (fun n v => n * 256 + v) acc < (acc + 1) * (256 : Int) ^ l.length := by
  induction l with
  | nil => intro acc h0; simp; omega
  | cons x r ih =>
    intro acc h0
    have hx := h x (by simp)
    have := ih (fun y hy => h y (by simp [hy])) (acc * 256 + x) (by omega)
    refine ⟨this.1, Int.lt_of_lt_of_le this.2 ?_⟩
    rw [List.length_cons, Int.pow_succ, Int.mul_comm ((256 : Int) ^ r.length) 256, ← Int.mul_assoc]
    exact Int.mul_le_mul_of_nonneg_right (by omega) (Int.pow_nonneg (by decide))

theorem numOf_in (l : List Int) (h : In 255 l) : 0 ≤ numOf l ∧ numOf l < (256 : Int) ^ l.length := by
  have := numOf_acc l h 0 (by decide)
  simpa [numOf] using this

/-- The bytes of a number, the highest one first. -/
def be (width : Nat) (n : Int) : List Int := upto (fun i => n / 256 ^ (width - 1 - i) % 256) width

theorem be_length (k : Nat) (n : Int) : (be k n).length = k := by simp [be, upto]

theorem be_in (k : Nat) (n : Int) : In 255 (be k n) := by
  intro x hx
  simp only [be, upto, List.mem_map] at hx
  obtain ⟨i, _, rfl⟩ := hx
  omega
end Go.Proofs.YtpbheonapgckfaaDoor
