/- The order of two strings of bytes is that of their bytes. -/
import Derived.Test.YtpbheonapgckfaaDoorTupQ
import Derived.Laws.Cover1
namespace Go.Proofs.YtpbheonapgckfaaDoor
open Go.RowKit
open SumM

theorem toList_str (l : List Int) : (strOfNums l).toList = l.map fun n => UInt8.ofNat n.toNat := by
  rw [ByteArray.toList_eq]
  rfl

theorem less_cmp (a b : List Int) (ha : In 255 a) (hb : In 255 b) (hl : a.length = b.length) : Op.bytesLess (strOfNums a).toList (strOfNums b).toList = decide (cmpL a b < 0) := by
  rw [toList_str, toList_str]
  induction a generalizing b with
  | nil =>
    cases b with
    | nil => rfl
    | cons y t => simp at hl
  | cons x r ih =>
    cases b with
    | nil => simp at hl
    | cons y t =>
      have hx := ha x (by simp)
      have hy := hb y (by simp)
      have ih' := ih t (fun z hz => ha z (by simp [hz])) (fun z hz => hb z (by simp [hz])) (by simpa using hl)
      simp only [List.map_cons, Op.bytesLess]
      have e1 : (UInt8.ofNat x.toNat < UInt8.ofNat y.toNat) ↔ x < y := by
        rw [UInt8.lt_iff_toNat_lt, UInt8.toNat_ofNat_of_lt' (by show x.toNat < 256; omega), UInt8.toNat_ofNat_of_lt' (by show y.toNat < 256; omega)]
        omega
      have e2 : (UInt8.ofNat x.toNat = UInt8.ofNat y.toNat) ↔ x = y := by
        refine ⟨fun h => ?_, fun h => by rw [h]⟩
        have := congrArg UInt8.toNat h
        rw [UInt8.toNat_ofNat_of_lt' (by show x.toNat < 256; omega), UInt8.toNat_ofNat_of_lt' (by show y.toNat < 256; omega)] at this
        omega
      rw [ih']
      rcases Int.lt_trichotomy x y with h | h | h
      · have hc : cmpL (x :: r) (y :: t) = -1 := by simp only [cmpL]; rw [if_pos h]
        have hd : decide (cmpL (x :: r) (y :: t) < 0) = true := decide_eq_true (by omega)
        rw [hd]
        simp [e1.2 h]
      · have hc : cmpL (x :: r) (y :: t) = cmpL r t := by simp only [cmpL]; rw [if_neg (by omega), if_neg (by omega)]
        have hd : decide (cmpL (x :: r) (y :: t) < 0) = decide (cmpL r t < 0) := by rw [Bool.eq_iff_iff, decide_eq_true_eq, decide_eq_true_eq, hc]
        rw [hd]
        simp [e2.2 h]
      · have hc : cmpL (x :: r) (y :: t) = 1 := by simp only [cmpL]; rw [if_neg (by omega), if_pos h]
        have hd : decide (cmpL (x :: r) (y :: t) < 0) = false := decide_eq_false (by omega)
        rw [hd]
        have e3 : ¬ UInt8.ofNat x.toNat < UInt8.ofNat y.toNat := mt e1.1 (by omega)
        have e4 : ¬ UInt8.ofNat x.toNat = UInt8.ofNat y.toNat := mt e2.1 (by omega)
        simp [e3, e4]

/-- What two tuples' bytes as strings say of their order. -/
theorem str_order {ts td tp tq ts' td' tp' tq' : Int} :
    Op.bytesLess (strOfNums (tupB ts td tp tq)).toList (strOfNums (tupB ts' td' tp' tq')).toList = decide (cmpU ts td tp tq ts' td' tp' tq' < 0) ∧
    ((strOfNums (tupB ts td tp tq)).toList == (strOfNums (tupB ts' td' tp' tq')).toList) = decide (cmpU ts td tp tq ts' td' tp' tq' = 0) := by
  refine ⟨less_cmp _ _ (tupB_in _ _ _ _) (tupB_in _ _ _ _) rfl, ?_⟩
  rw [str_eq (tupB_in _ _ _ _) (tupB_in _ _ _ _), Bool.eq_iff_iff, eqB_true, decide_eq_true_eq]
  exact (cmpL_zero (tupB ts td tp tq) (tupB ts' td' tp' tq') rfl).symm
end Go.Proofs.YtpbheonapgckfaaDoor
