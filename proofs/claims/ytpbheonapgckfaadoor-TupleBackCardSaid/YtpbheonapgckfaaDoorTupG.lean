/- The document's own answers on tuples: decimal. -/
import Derived.Test.YtpbheonapgckfaaDoorTupF
namespace Go.Proofs.YtpbheonapgckfaaDoor
open Go.RowKit Go.Shelf
open SumM

/-- A number's digits. -/
def decL (n : Nat) : List Int := if n < 10 then [48 + (n : Int)] else decL (n / 10) ++ decL (n % 10)
termination_by n
decreasing_by all_goals omega

theorem decL_length (n : Nat) : (decL n).length ≤ n + 1 := by
  induction n using Nat.strongRecOn with
  | _ n ih =>
    rw [decL]
    split
    · simp
    · have := ih (n / 10) (by omega)
      have := ih (n % 10) (by omega)
      rw [List.length_append]
      omega
theorem str_append (a b : List Int) : strOfNums (a ++ b) = strOfNums a ++ strOfNums b := by
  apply ByteArray.ext
  simp [strOfNums]

set_option maxRecDepth 100000 in
set_option maxHeartbeats 1000000 in
theorem r4dec_any (n : Nat) (hn : n ≤ 65535) (w : World) :
    Calls Tryd.prog 39 #[.int .i64 n] w fun e w' => e = .returned (.string (strOfNums (decL n))) ∧ Below w.heap.size w w' := by
  induction n using Nat.strongRecOn generalizing w with
  | _ n ih =>
    have IH := Lib.hid ih
    clear ih
    by_cases h : n < 10
    · have HD := Lib.hid (show decL n = [48 + (n : Int)] by rw [decL, if_pos h])
      have e1 : (convert 26 9 (.slice (some ⟨w.heap.size, 0, none⟩) 1 1)).run Tryd.prog (w.alloc (.cells #[.int .u8 (48 + (n : Int))] 5)) = .ok (.string (strOfNums [48 + (n : Int)])) (w.alloc (.cells #[.int .u8 (48 + (n : Int))] 5)) :=
        (Row.built .u8 w 5 [48 + (n : Int)] (fun x hx => by simp at hx; subst hx; exact wf_u8.2 (by omega))).str 1 1 rfl
      have L0 := (Below.refl w.heap.size w).alloc (Nat.le_refl _) (.cells #[.int .u8 (48 + (n : Int))] 5)
      have hlt : (n : Int) < 10 := by omega
      go_enter Tryd.func39, Tryd.ntmps39
      go_wp2
      go_ret
      exact ⟨by rw [HD.out]; rfl, L0⟩
    · have HD := Lib.hid (show decL n = decL (n / 10) ++ decL (n % 10) by rw [decL, if_neg h])
      have hlt : ¬ (n : Int) < 10 := by omega
      go_enter Tryd.func39, Tryd.ntmps39
      have K1 := Lib.hid (IH.out (n / 10) (by omega) (by omega))
      have K2 := Lib.hid (IH.out (n % 10) (by omega) (by omega))
      have E1 : Hid (((n / 10 : Nat) : Int) = (n : Int) / 10) := Lib.hid (by omega)
      have E2 : Hid (((n % 10 : Nat) : Int) = (n : Int) % 10) := Lib.hid (by omega)
      rw [E1.out] at K1
      rw [E2.out] at K2
      clear E1 E2 IH
      have hsz : ¬ 9223372036854775807 < (strOfNums (decL (n / 10))).size + (strOfNums (decL (n % 10))).size := by
        have := decL_length (n / 10)
        have := decL_length (n % 10)
        rw [strOfNums_size, strOfNums_size]
        omega
      go_wp2_with (first
        | (go_at_call 39; (with_reducible refine (K1.out w).mono ?_); rintro e w1 ⟨rfl, m1⟩)
        | (go_at_call 39; (with_reducible refine (K2.out w1).mono ?_); rintro e w2 ⟨rfl, m2⟩))
      go_ret
      exact ⟨by rw [HD.out, str_append]; rfl, m1.trans (m2.mono m1.size)⟩
end Go.Proofs.YtpbheonapgckfaaDoor
