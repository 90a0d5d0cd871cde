/- What the document's own answers for layer 1 (handfastref01) are: Words, Fold, Sum, Check, Right, Change and Same. -/
import Derived.Test.YtclofmgnnohhpaaChecks
import Derived.RegionTactic
import Derived.BigQuiet
import Derived.Deep.QuietTactic
namespace Go.Proofs.Ytclofmgnnohhpaa
open Go.RowKit
open SumM

set_option maxRecDepth 100000 in
set_option maxHeartbeats 400000 in
theorem rfold_any (a : Option Addr) (len cap B : Nat) (zs : List Int) (w : World) (h : Row .u16 B w a zs) (hl : zs.length = len) (hs : len ≤ 4000000) :
    Calls Try.prog 31 #[.slice a len cap] w fun e w' => e = .returned (.int .u16 (cr (tot zs))) ∧ w = w' := by
  have hin : In 65535 zs := fun x hx => wf_u16.1 (h.1 x hx)
  have HL := Lib.hid hl
  clear hl
  go_enter Try.func31, Try.ntmps31
  go_wp2
  go_loop [3, 4] (fun t i => ∃ k : Nat, k ≤ len ∧ i = .int .i64 k ∧ t = .int .i64 (cr (tot (zs.take k)))) (fun _ i => len - (intOf i).toNat)
  case atStart => exact ⟨0, Nat.zero_le _, rfl, rfl⟩
  case round =>
    obtain ⟨k, hk, rfl, rfl⟩ := hrel
    have hb := cr_in (tot (zs.take k))
    have hp := tot_in (zs.take k) (fun x hx => hin x (List.mem_of_mem_take hx))
    by_cases hlt : k < len
    · obtain ⟨b, off, rfl, _, hc⟩ := h.2 (by rw [HL.out]; omega)
      have hcx := hc k (by rw [HL.out]; omega)
      have hx := getD_in hin (by decide) k
      have HT := Lib.hid (show tot (zs.take (k + 1)) = tot (zs.take k) + zs[k]?.getD 0 by
        rw [List.take_add_one, tot_append]
        have : k < zs.length := by rw [HL.out]; exact hlt
        simp [tot, this])
      have HA := Lib.hid (cr_acc (a := tot (zs.take k)) hp.1 hx.1 hx.2)
      clear hc h hin hp
      by_cases hgt : 65535 < cr (tot (zs.take k)) + zs[k]?.getD 0
      · go_wp2
        go_round
        case rel => exact ⟨k + 1, by omega, by go_num, by rw [HT.out, HA.out, if_pos hgt]⟩
        case measure => simp [intOf]; omega
      · go_wp2
        go_round
        case rel => exact ⟨k + 1, by omega, by go_num, by rw [HT.out, HA.out, if_neg hgt]⟩
        case measure => simp [intOf]; omega
    · obtain rfl : k = len := by omega
      have he : zs.take k = zs := List.take_of_length_le (by rw [HL.out]; exact Nat.le_refl _)
      rw [he] at hb
      have HE := Lib.hid he
      clear he
      rw [HE.out]
      go_wp2
      go_ret
      exact ⟨rfl, rfl⟩

set_option maxRecDepth 100000 in
set_option maxHeartbeats 1000000 in
theorem rwords_any (a : Option Addr) (len cap : Nat) (bs : List Int) (hl : bs.length = len) (hs : len ≤ 8000000) (w : World) (hR : Row .u8 w.heap.size w a bs) :
    Calls Try.prog 32 #[.slice a len cap] w (RowRet .u16 (words bs) w) := by
  have hin : In 255 bs := fun x hx => wf_u8.1 (hR.1 x hx)
  have HL := Lib.hid hl
  clear hl
  obtain ⟨i0, hi, hz0, hz1, hz2⟩ := info_parts Try.infoU16
  go_enter Try.func32, Try.ntmps32
  go_wp2
  go_loopw [3, 4] (fun v i wr => ∃ k : Nat, 2 * k ≤ len + 1 ∧ i = .int .i64 (2 * k : Nat) ∧ wr.ownsRow w.heap.size 24 1 v k ((upto (wordAt bs) k).map (Value.int .u16)) ∧ Below w.heap.size w wr)
    (fun _ i _ => len + 1 - (intOf i).toNat)
  case atStart => exact ⟨0, by omega, rfl, World.ownsRow_nil _ _ _ _, Below.refl _ _⟩
  case round =>
    obtain ⟨k, hk, rfl, hown, hnx⟩ := hrel
    have hRr := hR.below hnx
    by_cases hlt : 2 * k < len
    · obtain ⟨b, off, rfl, hb, hc⟩ := hRr.2 (by rw [HL.out]; omega)
      have hx0 := getD_in hin (by decide) (2 * k)
      have hx1 := getD_in hin (by decide) (2 * k + 1)
      have hcx := hc (2 * k) (by rw [HL.out]; omega)
      have HU := Lib.hid (upto_succ (wordAt bs) k)
      by_cases h1 : 2 * k + 1 < len
      · have hcy := hc (2 * k + 1) (by rw [HL.out]; omega)
        clear hRr hc
        go_wp2_with (at_builtin; refine wpList_append_own _ rfl _ _ 53 rfl w.heap.size 24 i0 (.int .u16 0) 1 2 Try.underlying53 hi hz0 hz1 hz2 rfl (by decide) _ _ _ rfl (hown.alloc _) ⟨wr.heap.size, 0, none⟩ 1 1 [.int .u16 (256 * bs[2 * k]?.getD 0 + bs[2 * k + 1]?.getD 0)] rfl rfl (cell_one_new _ _ _) (by simp [Value.oneCell']) (by unfold maxLen; omega) (by omega) (by have := hnx.size; simp; omega) ?_; intro v' w1 hown' hgrow _)
        have hB1 := below_append hnx hnx.size hown hgrow
        have ho1 : w1.ownsRow w.heap.size 24 1 v' (k + 1) ((upto (wordAt bs) (k + 1)).map (Value.int .u16)) := by
          rw [HU.out]
          simpa [wordAt] using hown'
        clear hown' hgrow hown
        go_wp2
        go_roundw
        case rel => exact ⟨k + 1, by omega, by go_num, ho1, hB1⟩
        case measure => simp [intOf]; omega
      · clear hRr hc
        have ew : bs[2 * k + 1]? = none := List.getElem?_eq_none (by rw [HL.out]; omega)
        have HW := Lib.hid ew
        clear ew
        go_wp2_with (at_builtin; refine wpList_append_own _ rfl _ _ 53 rfl w.heap.size 24 i0 (.int .u16 0) 1 2 Try.underlying53 hi hz0 hz1 hz2 rfl (by decide) _ _ _ rfl (hown.alloc _) ⟨wr.heap.size, 0, none⟩ 1 1 [.int .u16 (256 * bs[2 * k]?.getD 0)] rfl rfl (cell_one_new _ _ _) (by simp [Value.oneCell']) (by unfold maxLen; omega) (by omega) (by have := hnx.size; simp; omega) ?_; intro v' w1 hown' hgrow _)
        have hB1 := below_append hnx hnx.size hown hgrow
        have ho1 : w1.ownsRow w.heap.size 24 1 v' (k + 1) ((upto (wordAt bs) (k + 1)).map (Value.int .u16)) := by
          rw [HU.out]
          simpa [wordAt, HW.out] using hown'
        clear hown' hgrow hown
        go_wp2
        go_roundw
        case rel => exact ⟨k + 1, by omega, by go_num, ho1, hB1⟩
        case measure => simp [intOf]; omega
    · obtain rfl : k = (len + 1) / 2 := by omega
      have ho : wr.ownsRow w.heap.size 24 1 u3 (words bs).length ((words bs).map (Value.int .u16)) := by
        rw [words_length, HL.out]
        unfold words
        rw [HL.out]
        exact hown
      clear hown hRr
      obtain ⟨a', c', rfl⟩ := own_slice ho
      go_wp2
      go_ret
      exact ⟨a', c', rfl, Row.of_own ho (in_wf16 (words_in hin)), hnx⟩

set_option maxRecDepth 100000 in
theorem rsum_any (a : Option Addr) (len cap : Nat) (bs : List Int) (hl : bs.length = len) (hs : len ≤ 7000000) (w : World) (hR : Row .u8 w.heap.size w a bs) :
    Calls Try.prog 18 #[.slice a len cap] w fun e W' => e = .returned (.int .u16 (sumOf bs)) ∧ Below w.heap.size w W' := by
  have HL := Lib.hid hl
  clear hl
  go_enter Try.func18, Try.ntmps18
  go_wp2_with fail
  refine (rwords_any _ _ _ bs HL.out (by omega) _ hR).mono ?_
  rintro e w1 ⟨a1, c1, rfl, hr1, hb1⟩
  go_wp2_with fail
  refine (rfold_any _ _ _ _ (words bs) _ hr1 rfl (by rw [words_length, HL.out]; omega)).mono ?_
  rintro e w2 ⟨rfl, rfl⟩
  go_wp2
  go_ret
  exact ⟨rfl, hb1⟩

set_option maxRecDepth 100000 in
theorem rcheck_any (a : Option Addr) (len cap : Nat) (bs : List Int) (hl : bs.length = len) (hs : len ≤ 7000000) (w : World) (hR : Row .u8 w.heap.size w a bs) :
    Calls Try.prog 28 #[.slice a len cap] w fun e W' => e = .returned (.int .u16 (65535 - sumOf bs)) ∧ Below w.heap.size w W' := by
  have HL := Lib.hid hl
  clear hl
  have hb : 0 ≤ sumOf bs ∧ sumOf bs ≤ 65535 := cr_in (tot (words bs))
  go_enter Try.func28, Try.ntmps28
  go_wp2_with (go_at_call 18; refine (rsum_any _ _ _ _ HL.out hs _ hR).mono ?_; rintro e w1 ⟨rfl, hb1⟩)
  go_ret
  exact ⟨rfl, hb1⟩

set_option maxRecDepth 100000 in
theorem rright_any (a : Option Addr) (len cap : Nat) (bs : List Int) (hl : bs.length = len) (hs : len ≤ 7000000) (w : World) (hR : Row .u8 w.heap.size w a bs) :
    Calls Try.prog 17 #[.slice a len cap] w fun e W' => e = .returned (.bool (sumOf bs == 65535)) ∧ Below w.heap.size w W' := by
  have HL := Lib.hid hl
  clear hl
  go_enter Try.func17, Try.ntmps17
  go_wp2_with (go_at_call 18; refine (rsum_any _ _ _ _ HL.out hs _ hR).mono ?_; rintro e w1 ⟨rfl, hb1⟩)
  go_ret
  exact ⟨rfl, hb1⟩

end Go.Proofs.Ytclofmgnnohhpaa
