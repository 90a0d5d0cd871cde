/- Numbers as bytes: package sheet's number: take. -/
import Derived.Test.YthgoopdekllanaaShJ
namespace Go.Proofs.Ythgoopdekllanaa
open Go.RowKit Go.Shelf
open SumM

attribute [local go_sem] Oper.semAt_some

theorem num_lt (l : List Int) (h : In 255 l) (n : Nat) (hl : l.length ≤ n) : 0 ≤ numOf l ∧ numOf l < (256 : Int) ^ n := by
  have := numOf_in l h
  refine ⟨this.1, Int.lt_of_lt_of_le this.2 ?_⟩
  have h2 : (256 : Nat) ^ l.length ≤ 256 ^ n := Nat.pow_le_pow_right (by decide) hl
  have e : ∀ k : Nat, (256 : Int) ^ k = ((256 ^ k : Nat) : Int) := fun k => by simp
  rw [e, e]
  omega
theorem or_byte (v c : Int) (hv : 0 ≤ v) (hv' : v < 1099511627776) (hc : 0 ≤ c ∧ c ≤ 255) : bits .or .i64 (v * 256) c = v * 256 + c := by
  obtain ⟨A, rfl⟩ := Int.eq_ofNat_of_zero_le hv
  obtain ⟨C, rfl⟩ := Int.eq_ofNat_of_zero_le hc.1
  have e1 : (A : Int) * 256 = ((A * 256 : Nat) : Int) := by omega
  have e2 : A * 256 ||| C = A * 256 + C := by
    have := Nat.shiftLeft_add_eq_or_of_lt (i := 8) (b := C) (by omega) A
    rw [Nat.shiftLeft_eq] at this
    exact this.symm
  rw [e1]
  show IntKind.i64.wrap ((BitVec.ofInt 64 ((A * 256 : Nat) : Int) ||| BitVec.ofInt 64 (C : Int)).toNat : Int) = _
  rw [BitVec.toNat_or, ofInt_u64 _ (by omega), ofInt_u64 _ (by omega), e2, IntWalk.i64_in _ (by omega)]
  omega
/-- What take leaves: the number stored, the bytes behind. -/
def NTake (B0 : Nat) (a : Addr) (pl : Int) (wd : Nat) (b off len cap : Nat) (bs : List Int) (w : World) : Ending → World → Prop := fun e w' => e = .returned (.slice (if cap = wd then some ⟨b, off, none⟩ else some ⟨b, off + wd, none⟩) (len - wd) (cap - wd)) ∧ ∃ W1, Below w.heap.size w W1 ∧ KeepsOthers w W1 ∧ w' = W1.setCell a (.int .i64 (numOf (bs.take wd) - pl)) ∧ Row .u8 B0 w (if cap = wd then some ⟨b, off, none⟩ else some ⟨b, off + wd, none⟩) (bs.drop wd)

set_option maxRecDepth 100000 in
set_option maxHeartbeats 4000000 in
theorem ntake_any (B o : Nat) (x pl : Int) (hpl : 0 ≤ pl ∧ pl ≤ 1) (wd : Nat) (hwd : 0 < wd ∧ wd ≤ 6) (b off len cap : Nat) (bs : List Int) (hl : bs.length = len) (hwl : wd ≤ len) (hlc : len ≤ cap) (w : World) (B0 : Nat) (hB0 : B0 ≤ w.heap.size) (hBw : B < w.heap.size) (hc : w.cell? ⟨B, o, none⟩ = some (.int .i64 x)) (hf : w.frozen? ⟨B, o, none⟩ = false) (hR : Row .u8 B0 w (some ⟨b, off, none⟩) bs) :
    Calls Try.prog 51 #[nmV ⟨B, o, none⟩ pl (wd : Nat), .slice (some ⟨b, off, none⟩) len cap] w (NTake B0 ⟨B, o, none⟩ pl wd b off len cap bs w) := by
  have HI := Lib.hid (row_in hR)
  have bN := heap_alloc_new w (.cells #[.pointer (some ⟨B, o, none⟩), .int .i64 pl, .int .i64 (wd : Nat)] 81)
  have L0 := (Below.refl w.heap.size w).alloc (Nat.le_refl _) (.cells #[.pointer (some ⟨B, o, none⟩), .int .i64 pl, .int .i64 (wd : Nat)] 81)
  have HKO := Lib.hid (KeepsOthers.alloc w (.cells #[.pointer (some ⟨B, o, none⟩), .int .i64 pl, .int .i64 (wd : Nat)] 81))
  obtain ⟨c0, c1, c2⟩ := numb_cells bN
  have cx := (L0.cell (p := ⟨B, o, none⟩) hBw).trans hc
  have cf := (L0.frozen (p := ⟨B, o, none⟩) hBw).trans hf
  have hwl2 : (wd : Int) ≤ (len : Int) := by omega
  have hwc : wd ≤ cap := by omega
  have hwc2 : (wd : Int) ≤ (cap : Int) := by omega
  have HR := Lib.hid hR
  have HL := Lib.hid L0
  have HLL := Lib.hid (And.intro hl (And.intro hpl hwd))
  have hne : B ≠ w.heap.size := by omega
  have hne2 : w.heap.size ≠ B := by omega
  clear hR L0 bN hc hf hl hpl
  go_enter Try.func51, Try.ntmps51
  go_wp2
  generalize w.alloc (.cells #[.pointer (some ⟨B, o, none⟩), .int .i64 pl, .int .i64 (wd : Nat)] 81) = W0 at *
  go_loopw [5, 13] (fun u i wr => ∃ k : Nat, k ≤ wd ∧ i = .int .i64 (k : Nat) ∧ u = .int .i64 (numOf (bs.take k)) ∧ wr = W0) (fun _ i _ => wd - (intOf i).toNat)
  case atStart => exact ⟨0, by omega, rfl, rfl, rfl⟩
  case round =>
    obtain ⟨k, hk, rfl, rfl, rfl⟩ := hrel
    by_cases hlt : k < wd
    · obtain ⟨b', off', e', hb', hc'⟩ := HR.out.2 (by have := HLL.out; omega)
      injection e' with e'
      injection e' with e1 e2
      subst e1 e2
      have q1 := (HL.out.cell (p := ⟨b, off + k, none⟩) (by have := hB0; simp; omega)).trans (hc' k (by have := HLL.out; omega))
      have hvb := num_lt (bs.take k) (in_take HI.out _) 5 (by have := HLL.out; rw [List.length_take]; omega)
      have hcb := getD_in HI.out (by decide) k
      have hsn : numOf (bs.take (k + 1)) = numOf (bs.take k) * 256 + bs[k]?.getD 0 := by
        rw [List.take_add_one, List.getElem?_eq_getElem (by have := HLL.out; omega)]
        exact numOf_snoc _ _
      have HSN := Lib.hid hsn
      clear hc' hsn
      generalize numOf (bs.take k) = v at *
      generalize bs[k]?.getD 0 = c at *
      have q3 : (k : Int) < (wd : Int) := by omega
      have q5 : k < wd := hlt
      have q7 : k < 6 := by omega
      have HOB := Lib.hid (or_byte v c hvb.1 (by have := hvb.2; simpa using this) hcb)
      clear cx cf c0 c1 c2
      go_wp2
      go_roundw
      case rel => exact ⟨k + 1, by omega, by go_num, by rw [HSN.out, ← HOB.out], trivial⟩
      case measure => simp [intOf]; omega
    · obtain rfl : k = wd := by omega
      have hvb := num_lt (bs.take k) (in_take HI.out _) 6 (by rw [List.length_take]; omega)
      have hv0 : 0 ≤ numOf (bs.take k) := hvb.1
      have hv1 : numOf (bs.take k) < 281474976710656 := by simpa using hvb.2
      have hp0 : 0 ≤ pl := HLL.out.2.1.1
      have hp1 : pl ≤ 1 := HLL.out.2.1.2
      clear hvb
      obtain ⟨v, hv⟩ : ∃ v, numOf (bs.take k) = v := ⟨_, rfl⟩
      have HV := Lib.hid hv
      rw [hv] at hv0 hv1
      simp only [hv]
      clear hv
      have HD := Lib.hid (HR.out.dropIf k (c := cap = k) (fun h => List.drop_eq_nil_of_le (by have := HLL.out; omega)))
      by_cases hck : cap = k
      · subst hck
        go_wp2
        go_ret
        exact ⟨by simp; omega, _, HL.out, HKO.out, by rw [HV.out], by rw [if_pos rfl]; simpa using HD.out⟩
      · go_wp2
        go_ret
        exact ⟨by simp [hck], _, HL.out, HKO.out, by rw [HV.out], by rw [if_neg hck]; simpa [hck] using HD.out⟩
end Go.Proofs.Ythgoopdekllanaa
