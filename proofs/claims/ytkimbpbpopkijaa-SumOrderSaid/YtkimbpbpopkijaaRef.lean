/- What the document's own answers for layer 1 (handfastref01) are: Words, Fold, Sum, Check, Right, Change and Same. -/
import Derived.Test.YtkimbpbpopkijaaChecks
import Derived.RegionTactic
import Derived.BigQuiet
import Derived.Deep.QuietTactic
namespace Go.Proofs.Ytkimbpbpopkijaa
open Go.RowKit
open SumM

set_option maxRecDepth 100000 in
set_option maxHeartbeats 400000 in
theorem rfold_any (a : Option Addr) (len cap B : Nat) (zs : List Int) (w : World) (h : Row .u16 B w a zs) (hl : zs.length = len) (hs : len ≤ 4000000) :
    Calls Try.prog 13 #[.slice a len cap] w fun e w' => e = .returned (.int .u16 (cr (tot zs))) ∧ w = w' := by
  have hin : In 65535 zs := fun x hx => wf_u16.1 (h.1 x hx)
  have HL := Lib.hid hl
  clear hl
  go_enter Try.func13, Try.ntmps13
  go_wp2
  go_loop [3, 4] (fun t i => ∃ k : Nat, k ≤ len ∧ i = .int .i64 k ∧ t = .int .i64 (cr (tot (zs.take k)))) (fun _ i => len - (intOf i).toNat)
  case atStart => exact ⟨0, Nat.zero_le _, rfl, rfl⟩
  case round =>
    obtain ⟨k, hk, rfl, rfl⟩ := hrel
    have hb := cr_in (tot (zs.take k))
    have hp := tot_in (zs.take k) (fun x hx => hin x (List.mem_of_mem_take hx))
    by_cases hlt : k < len
    · obtain ⟨b, off, rfl, _, hc⟩ := h.2 (by rw [HL.out]; omega)
      have hcx := hc k (by rw [HL.out]; omega)
      have hx := getD_in hin (by decide) k
      have HT := Lib.hid (show tot (zs.take (k + 1)) = tot (zs.take k) + zs[k]?.getD 0 by
        rw [List.take_add_one, tot_append]
        have : k < zs.length := by rw [HL.out]; exact hlt
        simp [tot, this])
      have HA := Lib.hid (cr_acc (a := tot (zs.take k)) hp.1 hx.1 hx.2)
      clear hc h hin hp
      by_cases hgt : 65535 < cr (tot (zs.take k)) + zs[k]?.getD 0
      · go_wp2
        go_round
        case rel => exact ⟨k + 1, by omega, by go_num, by rw [HT.out, HA.out, if_pos hgt]⟩
        case measure => simp [intOf]; omega
      · go_wp2
        go_round
        case rel => exact ⟨k + 1, by omega, by go_num, by rw [HT.out, HA.out, if_neg hgt]⟩
        case measure => simp [intOf]; omega
    · obtain rfl : k = len := by omega
      have he : zs.take k = zs := List.take_of_length_le (by rw [HL.out]; exact Nat.le_refl _)
      rw [he] at hb
      have HE := Lib.hid he
      clear he
      rw [HE.out]
      go_wp2
      go_ret
      exact ⟨rfl, rfl⟩

set_option maxRecDepth 100000 in
set_option maxHeartbeats 1000000 in
theorem rwords_any (a : Option Addr) (len cap : Nat) (bs : List Int) (hl : bs.length = len) (hs : len ≤ 8000000) (w : World) (hR : Row .u8 w.heap.size w a bs) :
    Calls Try.prog 11 #[.slice a len cap] w (RowRet .u16 (words bs) w) := by
  have hin : In 255 bs := fun x hx => wf_u8.1 (hR.1 x hx)
  have HL := Lib.hid hl
  clear hl
  obtain ⟨i0, hi, hz0, hz1, hz2⟩ := info_parts Try.infoU16
  go_enter Try.func11, Try.ntmps11
  go_wp2
  go_loopw [3, 4] (fun v i wr => ∃ k : Nat, 2 * k ≤ len + 1 ∧ i = .int .i64 (2 * k : Nat) ∧ wr.ownsRow w.heap.size 24 1 v k ((upto (wordAt bs) k).map (Value.int .u16)) ∧ Below w.heap.size w wr)
    (fun _ i _ => len + 1 - (intOf i).toNat)
  case atStart => exact ⟨0, by omega, rfl, World.ownsRow_nil _ _ _ _, Below.refl _ _⟩
  case round =>
    obtain ⟨k, hk, rfl, hown, hnx⟩ := hrel
    have hRr := hR.below hnx
    by_cases hlt : 2 * k < len
    · obtain ⟨b, off, rfl, hb, hc⟩ := hRr.2 (by rw [HL.out]; omega)
      have hx0 := getD_in hin (by decide) (2 * k)
      have hx1 := getD_in hin (by decide) (2 * k + 1)
      have hcx := hc (2 * k) (by rw [HL.out]; omega)
      have HU := Lib.hid (upto_succ (wordAt bs) k)
      by_cases h1 : 2 * k + 1 < len
      · have hcy := hc (2 * k + 1) (by rw [HL.out]; omega)
        clear hRr hc
        go_wp2_with (at_builtin; refine wpList_append_own _ rfl _ _ 23 rfl w.heap.size 24 i0 (.int .u16 0) 1 2 Try.underlying23 hi hz0 hz1 hz2 rfl (by decide) _ _ _ rfl (hown.alloc _) ⟨wr.heap.size, 0, none⟩ 1 1 [.int .u16 (256 * bs[2 * k]?.getD 0 + bs[2 * k + 1]?.getD 0)] rfl rfl (cell_one_new _ _ _) (by simp [Value.oneCell']) (by unfold maxLen; omega) (by omega) (by have := hnx.size; simp; omega) ?_; intro v' w1 hown' hgrow _)
        have hB1 := below_append hnx hnx.size hown hgrow
        have ho1 : w1.ownsRow w.heap.size 24 1 v' (k + 1) ((upto (wordAt bs) (k + 1)).map (Value.int .u16)) := by
          rw [HU.out]
          simpa [wordAt] using hown'
        clear hown' hgrow hown
        go_wp2
        go_roundw
        case rel => exact ⟨k + 1, by omega, by go_num, ho1, hB1⟩
        case measure => simp [intOf]; omega
      · clear hRr hc
        have ew : bs[2 * k + 1]? = none := List.getElem?_eq_none (by rw [HL.out]; omega)
        have HW := Lib.hid ew
        clear ew
        go_wp2_with (at_builtin; refine wpList_append_own _ rfl _ _ 23 rfl w.heap.size 24 i0 (.int .u16 0) 1 2 Try.underlying23 hi hz0 hz1 hz2 rfl (by decide) _ _ _ rfl (hown.alloc _) ⟨wr.heap.size, 0, none⟩ 1 1 [.int .u16 (256 * bs[2 * k]?.getD 0)] rfl rfl (cell_one_new _ _ _) (by simp [Value.oneCell']) (by unfold maxLen; omega) (by omega) (by have := hnx.size; simp; omega) ?_; intro v' w1 hown' hgrow _)
        have hB1 := below_append hnx hnx.size hown hgrow
        have ho1 : w1.ownsRow w.heap.size 24 1 v' (k + 1) ((upto (wordAt bs) (k + 1)).map (Value.int .u16)) := by
          rw [HU.out]
          simpa [wordAt, HW.out] using hown'
        clear hown' hgrow hown
        go_wp2
        go_roundw
        case rel => exact ⟨k + 1, by omega, by go_num, ho1, hB1⟩
        case measure => simp [intOf]; omega
    · obtain rfl : k = (len + 1) / 2 := by omega
      have ho : wr.ownsRow w.heap.size 24 1 u3 (words bs).length ((words bs).map (Value.int .u16)) := by
        rw [words_length, HL.out]
        unfold words
        rw [HL.out]
        exact hown
      clear hown hRr
      obtain ⟨a', c', rfl⟩ := own_slice ho
      go_wp2
      go_ret
      exact ⟨a', c', rfl, Row.of_own ho (in_wf16 (words_in hin)), hnx⟩

set_option maxRecDepth 100000 in
theorem rsum_any (a : Option Addr) (len cap : Nat) (bs : List Int) (hl : bs.length = len) (hs : len ≤ 7000000) (w : World) (hR : Row .u8 w.heap.size w a bs) :
    Calls Try.prog 15 #[.slice a len cap] w fun e W' => e = .returned (.int .u16 (sumOf bs)) ∧ Below w.heap.size w W' := by
  have HL := Lib.hid hl
  clear hl
  go_enter Try.func15, Try.ntmps15
  go_wp2_with fail
  refine (rwords_any _ _ _ bs HL.out (by omega) _ hR).mono ?_
  rintro e w1 ⟨a1, c1, rfl, hr1, hb1⟩
  go_wp2_with fail
  refine (rfold_any _ _ _ _ (words bs) _ hr1 rfl (by rw [words_length, HL.out]; omega)).mono ?_
  rintro e w2 ⟨rfl, rfl⟩
  go_wp2
  go_ret
  exact ⟨rfl, hb1⟩

set_option maxRecDepth 100000 in
theorem rcheck_any (a : Option Addr) (len cap : Nat) (bs : List Int) (hl : bs.length = len) (hs : len ≤ 7000000) (w : World) (hR : Row .u8 w.heap.size w a bs) :
    Calls Try.prog 17 #[.slice a len cap] w fun e W' => e = .returned (.int .u16 (65535 - sumOf bs)) ∧ Below w.heap.size w W' := by
  have HL := Lib.hid hl
  clear hl
  have hb : 0 ≤ sumOf bs ∧ sumOf bs ≤ 65535 := cr_in (tot (words bs))
  go_enter Try.func17, Try.ntmps17
  go_wp2_with (go_at_call 15; refine (rsum_any _ _ _ _ HL.out hs _ hR).mono ?_; rintro e w1 ⟨rfl, hb1⟩)
  go_ret
  exact ⟨rfl, hb1⟩

set_option maxRecDepth 100000 in
theorem rright_any (a : Option Addr) (len cap : Nat) (bs : List Int) (hl : bs.length = len) (hs : len ≤ 7000000) (w : World) (hR : Row .u8 w.heap.size w a bs) :
    Calls Try.prog 19 #[.slice a len cap] w fun e W' => e = .returned (.bool (sumOf bs == 65535)) ∧ Below w.heap.size w W' := by
  have HL := Lib.hid hl
  clear hl
  go_enter Try.func19, Try.ntmps19
  go_wp2_with (go_at_call 15; refine (rsum_any _ _ _ _ HL.out hs _ hR).mono ?_; rintro e w1 ⟨rfl, hb1⟩)
  go_ret
  exact ⟨rfl, hb1⟩

set_option maxRecDepth 100000 in
theorem rchange_any (c o n : Int) (w : World) (hc : 0 ≤ c ∧ c ≤ 65535) (ho : 0 ≤ o ∧ o ≤ 65535) (hn : 0 ≤ n ∧ n ≤ 65535) :
    Calls Try.prog 21 #[.int .u16 c, .int .u16 o, .int .u16 n] w fun e W' => e = .returned (.int .u16 (65535 - cr ((65535 - c) + (65535 - o) + n))) ∧ Below w.heap.size w W' := by
  have hz : In 65535 [65535 - c, 65535 - o, n] := by
    intro x hx
    simp at hx
    omega
  have et : tot [65535 - c, 65535 - o, n] = (65535 - c) + (65535 - o) + n := by simp [tot]; omega
  have hb := cr_in (tot [65535 - c, 65535 - o, n])
  have HT := Lib.hid et
  clear et
  go_enter Try.func21, Try.ntmps21
  go_wp2_with fail
  refine (rfold_any _ 3 3 _ [65535 - c, 65535 - o, n] _ (Row.built .u16 w 24 [65535 - c, 65535 - o, n] (in_wf16 hz)) rfl (by omega)).mono ?_
  rintro e w1 ⟨rfl, rfl⟩
  go_wp2
  go_ret
  exact ⟨by rw [HT.out]; rfl, (Below.refl _ w).alloc (Nat.le_refl _) _⟩

set_option maxRecDepth 100000 in
set_option maxHeartbeats 400000 in
/-- Same, of two lists that are the same. -/
theorem same_any (a b : Option Addr) (len cap cap' B : Nat) (zs : List Int) (w : World) (h : Row .u16 B w a zs) (h' : Row .u16 B w b zs) (hl : zs.length = len) (hs : len ≤ 4000000) :
    Calls Try.prog 9 #[.slice a len cap, .slice b len cap'] w fun e w' => e = .returned (.bool true) ∧ ∃ n, w' = w.drewN n := by
  have HL := Lib.hid hl
  clear hl
  have hne : ((len : Int) != (len : Int)) = false := by simp
  go_enter Try.func9, Try.ntmps9
  go_wp2
  go_loopw [5] (fun i wr => ∃ k : Nat, k ≤ len ∧ i = .int .i64 k ∧ ∃ n, wr = w.drewN n) (fun i _ => len - (intOf i).toNat)
  case atStart => exact ⟨0, Nat.zero_le _, rfl, 0, rfl⟩
  case round =>
    obtain ⟨k, hk, rfl, n, rfl⟩ := hrel
    by_cases hlt : k < len
    · obtain ⟨b1, off1, rfl, _, hc1⟩ := h.2 (by rw [HL.out]; omega)
      obtain ⟨b2, off2, rfl, _, hc2⟩ := h'.2 (by rw [HL.out]; omega)
      have hcx := hc1 k (by rw [HL.out]; omega)
      have hcy := hc2 k (by rw [HL.out]; omega)
      clear hc1 hc2 h h'
      go_wp2
      go_quiet (fail)
      go_wp2
      go_roundw
      case rel => exact ⟨k + 1, by omega, by go_num, _, rfl⟩
      case measure => simp [intOf]; omega
    · obtain rfl : k = len := by omega
      go_wp2
      go_ret
      exact ⟨rfl, n, rfl⟩
end Go.Proofs.Ytkimbpbpopkijaa
