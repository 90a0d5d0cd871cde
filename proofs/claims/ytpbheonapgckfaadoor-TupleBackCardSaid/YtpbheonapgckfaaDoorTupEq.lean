/- The equality of two tuples, as one Bool. -/
import Derived.Test.YtpbheonapgckfaaDoorTupR
namespace Go.Proofs.YtpbheonapgckfaaDoor
open Go.RowKit Go.Shelf
open SumM

/-- Whether two tuples are the same. -/
def eqU (ts td tp tq ts' td' tp' tq' : Int) : Bool := decide (ts = ts' ∧ td = td' ∧ tp = tp' ∧ tq = tq')

set_option maxRecDepth 100000 in
theorem run_eqU (ts td tp tq : Int) (ts' td' tp' tq' : Int) (W : World) : (Go.binOp .eql 25 (.agg #[.int .u32 ts, .int .u32 td, .int .u16 tp, .int .u16 tq]) (.agg #[.int .u32 ts', .int .u32 td', .int .u16 tp', .int .u16 tq'])).run Tryd.prog W = .ok (.bool (eqU ts td tp tq ts' td' tp' tq')) W := by
  have hcase : (ts = ts' ∧ td = td' ∧ tp = tp' ∧ tq = tq') ∨ (ts = ts' ∧ td = td' ∧ tp = tp' ∧ tq ≠ tq') ∨ (ts = ts' ∧ td = td' ∧ tp ≠ tp') ∨ (ts = ts' ∧ td ≠ td') ∨ ts ≠ ts' := by omega
  rcases hcase with ⟨rfl, rfl, rfl, rfl⟩ | ⟨rfl, rfl, rfl, e⟩ | ⟨rfl, rfl, e⟩ | ⟨rfl, e⟩ | e
  · rw [show eqU ts td tp tq ts td tp tq = true from decide_eq_true ⟨rfl, rfl, rfl, rfl⟩]
    go_simp
  all_goals
    first
      | rw [show eqU ts td tp tq ts td tp tq' = false from decide_eq_false (by simp [e])]
      | rw [show eqU ts td tp tq ts td tp' tq' = false from decide_eq_false (by simp [e])]
      | rw [show eqU ts td tp tq ts td' tp' tq' = false from decide_eq_false (by simp [e])]
      | rw [show eqU ts td tp tq ts' td' tp' tq' = false from decide_eq_false (by simp [e])]
    go_simp
theorem eqU_if (ts td tp tq ts' td' tp' tq' : Int) : (if ((ts, td, tp, tq) : Tup) = (ts', td', tp', tq') then 1 else 0 : Nat) = if eqU ts td tp tq ts' td' tp' tq' = true then 1 else 0 := by
  simp [eqU]
set_option maxRecDepth 100000 in
theorem run_neU (ts td tp tq : Int) (ts' td' tp' tq' : Int) (W : World) : (Go.binOp .neq 25 (.agg #[.int .u32 ts, .int .u32 td, .int .u16 tp, .int .u16 tq]) (.agg #[.int .u32 ts', .int .u32 td', .int .u16 tp', .int .u16 tq'])).run Tryd.prog W = .ok (.bool (!(eqU ts td tp tq ts' td' tp' tq'))) W := by
  have h := run_eqU ts td tp tq ts' td' tp' tq' W
  rw [run_eql_struct] at h
  rw [run_neq_struct]
  generalize (Op.equalIn 10000 25 (.agg #[.int .u32 ts, .int .u32 td, .int .u16 tp, .int .u16 tq]) (.agg #[.int .u32 ts', .int .u32 td', .int .u16 tp', .int .u16 tq'])).run Tryd.prog W = r at *
  cases r with
  | ok b w' =>
    simp only [Result.andThen_ok, Result.ok.injEq, Value.bool.injEq] at h ⊢
    exact ⟨by rw [h.1], h.2⟩
  | halt x w' => simp [Result.andThen] at h
theorem eqU_same (ts td tp tq : Int) : eqU ts td tp tq ts td tp tq = true := decide_eq_true ⟨rfl, rfl, rfl, rfl⟩
end Go.Proofs.YtpbheonapgckfaaDoor
