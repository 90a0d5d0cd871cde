/- The document's own answers on tuples: number, bytes. -/
import Derived.Test.YtklmlpnccbmpnaaCore
namespace Go.Proofs.Ytklmlpnccbmpnaa
open Go.RowKit Go.Shelf
open SumM

set_option maxRecDepth 100000 in
set_option maxHeartbeats 400000 in
theorem r4number_any (a : Option Addr) (len cap B : Nat) (zs : List Int) (w : World) (h : Row .u8 B w a zs) (hl : zs.length = len) (hs : len ≤ 4) :
    Calls Try.prog 40 #[.slice a len cap] w fun e w' => e = .returned (.int .i64 (numOf zs)) ∧ w = w' := by
  have hin : In 255 zs := fun x hx => wf_u8.1 (h.1 x hx)
  have HL := Lib.hid hl
  clear hl
  go_enter Try.func40, Try.ntmps40
  go_wp2
  go_loop [3, 4] (fun t i => ∃ k : Nat, k ≤ len ∧ i = .int .i64 k ∧ t = .int .i64 (numOf (zs.take k))) (fun _ i => len - (intOf i).toNat)
  case atStart => exact ⟨0, Nat.zero_le _, rfl, rfl⟩
  case round =>
    obtain ⟨k, hk, rfl, rfl⟩ := hrel
    by_cases hlt : k < len
    · obtain ⟨b, off, rfl, _, hc⟩ := h.2 (by rw [HL.out]; omega)
      have hcx := hc k (by rw [HL.out]; omega)
      have hx := getD_in hin (by decide) k
      have hb := numOf_in (zs.take k) (fun x hx => hin x (List.mem_of_mem_take hx))
      have hp : numOf (zs.take k) < 16777216 := by
        have e : (zs.take k).length = k := by simp; rw [HL.out]; omega
        rw [e] at hb
        have : (256 : Int) ^ k ≤ 256 ^ 3 := by
          obtain rfl | rfl | rfl | rfl : k = 0 ∨ k = 1 ∨ k = 2 ∨ k = 3 := by omega
          all_goals decide
        omega
      have HT := Lib.hid (show numOf (zs.take (k + 1)) = 256 * numOf (zs.take k) + zs[k]?.getD 0 by
        have hk' : k < zs.length := by rw [HL.out]; exact hlt
        rw [List.take_add_one, show zs[k]?.toList = [zs[k]?.getD 0] by simp [hk'], numOf_snoc]
        omega)
      have h0 := hb.1
      clear hc h hin hb
      go_wp2
      go_round
      case rel => exact ⟨k + 1, by omega, by go_num, by rw [HT.out]⟩
      case measure => simp [intOf]; omega
    · obtain rfl : k = len := by omega
      have he : zs.take k = zs := List.take_of_length_le (by rw [HL.out]; exact Nat.le_refl _)
      have HE := Lib.hid he
      clear he
      rw [HE.out]
      go_wp2
      go_ret
      exact ⟨rfl, rfl⟩

/-- The bytes of a number, in memory of the call's own. -/
def R4Bytes (n : Nat) (zs : List Int) (w : World) (e : Ending) (w' : World) : Prop :=
  ∃ g c, e = .returned (.slice (some ⟨g, 0, none⟩) n c) ∧ w'.ownsRow w.heap.size 5 1 (.slice (some ⟨g, 0, none⟩) n c) n (zs.map (Value.int .u8)) ∧ Below w.heap.size w w'
set_option maxRecDepth 100000 in
set_option maxHeartbeats 2000000 in
theorem r4bytes4 (n : Int) (_ : 0 ≤ n ∧ n ≤ 4294967295) (w : World) :
    Calls Try.prog 39 #[.int .i64 n, .int .i64 4] w (R4Bytes 4 [n / 16777216 % 256, n / 65536 % 256, n / 256 % 256, n % 256] w) := by
  obtain ⟨i0, hi, hz0, hz1, hz2⟩ := info_parts Try.infoU8
  go_enter Try.func39, Try.ntmps39
  go_wp2
  go_loopw [5, 6] (fun s i wr => ∃ k : Nat, k ≤ 4 ∧ i = .int .i64 (3 - (k : Int)) ∧ wr.ownsRow w.heap.size 5 1 s k (([n / 16777216 % 256, n / 65536 % 256, n / 256 % 256, n % 256].take k).map (Value.int .u8)) ∧ Below w.heap.size w wr)
    (fun _ i _ => (intOf i + 1).toNat)
  case atStart => exact ⟨0, by omega, rfl, World.ownsRow_nil _ _ _ _, Below.refl _ _⟩
  case round =>
    obtain ⟨k, hk, rfl, hown, hnx⟩ := hrel
    have HW := Lib.hid hown
    have HX := Lib.hid hnx
    clear hown hnx
    obtain rfl | rfl | rfl | rfl | rfl : k = 0 ∨ k = 1 ∨ k = 2 ∨ k = 3 ∨ k = 4 := by omega
    · have e1 := i64_and255 (n / 16777216)
      go_wp2_with (at_builtin; refine wpList_append_own _ rfl _ _ 22 rfl w.heap.size 5 i0 (.int .u8 0) 1 1 Try.underlying22 hi hz0 hz1 hz2 rfl (by decide) _ _ _ rfl (HW.out.alloc _) ⟨wr.heap.size, 0, none⟩ 1 1 [_] rfl rfl (cell_one_new _ _ _) (by simp [Value.oneCell']) (by unfold maxLen; omega) (by omega) (by have := HX.out.size; simp; omega) ?_; intro v' w1 hown' hgrow _)
      have hB1 := below_append HX.out HX.out.size HW.out hgrow
      go_roundw
      case rel => exact ⟨1, by omega, by go_num, by simpa using hown', hB1⟩
      case measure => simp [intOf]
    · have e1 := i64_and255 (n / 65536)
      go_wp2_with (at_builtin; refine wpList_append_own _ rfl _ _ 22 rfl w.heap.size 5 i0 (.int .u8 0) 1 1 Try.underlying22 hi hz0 hz1 hz2 rfl (by decide) _ _ _ rfl (HW.out.alloc _) ⟨wr.heap.size, 0, none⟩ 1 1 [_] rfl rfl (cell_one_new _ _ _) (by simp [Value.oneCell']) (by unfold maxLen; omega) (by omega) (by have := HX.out.size; simp; omega) ?_; intro v' w1 hown' hgrow _)
      have hB1 := below_append HX.out HX.out.size HW.out hgrow
      go_roundw
      case rel => exact ⟨2, by omega, by go_num, by simpa using hown', hB1⟩
      case measure => simp [intOf]
    · have e1 := i64_and255 (n / 256)
      go_wp2_with (at_builtin; refine wpList_append_own _ rfl _ _ 22 rfl w.heap.size 5 i0 (.int .u8 0) 1 1 Try.underlying22 hi hz0 hz1 hz2 rfl (by decide) _ _ _ rfl (HW.out.alloc _) ⟨wr.heap.size, 0, none⟩ 1 1 [_] rfl rfl (cell_one_new _ _ _) (by simp [Value.oneCell']) (by unfold maxLen; omega) (by omega) (by have := HX.out.size; simp; omega) ?_; intro v' w1 hown' hgrow _)
      have hB1 := below_append HX.out HX.out.size HW.out hgrow
      go_roundw
      case rel => exact ⟨3, by omega, by go_num, by simpa using hown', hB1⟩
      case measure => simp [intOf]
    · have e1 := i64_and255 (n)
      go_wp2_with (at_builtin; refine wpList_append_own _ rfl _ _ 22 rfl w.heap.size 5 i0 (.int .u8 0) 1 1 Try.underlying22 hi hz0 hz1 hz2 rfl (by decide) _ _ _ rfl (HW.out.alloc _) ⟨wr.heap.size, 0, none⟩ 1 1 [_] rfl rfl (cell_one_new _ _ _) (by simp [Value.oneCell']) (by unfold maxLen; omega) (by omega) (by have := HX.out.size; simp; omega) ?_; intro v' w1 hown' hgrow _)
      have hB1 := below_append HX.out HX.out.size HW.out hgrow
      go_roundw
      case rel => exact ⟨4, by omega, by go_num, by simpa using hown', hB1⟩
      case measure => simp [intOf]
    · go_wp2
      go_ret
      obtain ⟨g, c, rfl, hg⟩ := own_form HW.out (by omega)
      exact ⟨g, c, rfl, by simpa using HW.out, HX.out⟩

set_option maxRecDepth 100000 in
set_option maxHeartbeats 2000000 in
theorem r4bytes2 (n : Int) (_ : 0 ≤ n ∧ n ≤ 4294967295) (w : World) :
    Calls Try.prog 39 #[.int .i64 n, .int .i64 2] w (R4Bytes 2 [n / 256 % 256, n % 256] w) := by
  obtain ⟨i0, hi, hz0, hz1, hz2⟩ := info_parts Try.infoU8
  go_enter Try.func39, Try.ntmps39
  go_wp2
  go_loopw [5, 6] (fun s i wr => ∃ k : Nat, k ≤ 2 ∧ i = .int .i64 (1 - (k : Int)) ∧ wr.ownsRow w.heap.size 5 1 s k (([n / 256 % 256, n % 256].take k).map (Value.int .u8)) ∧ Below w.heap.size w wr)
    (fun _ i _ => (intOf i + 1).toNat)
  case atStart => exact ⟨0, by omega, rfl, World.ownsRow_nil _ _ _ _, Below.refl _ _⟩
  case round =>
    obtain ⟨k, hk, rfl, hown, hnx⟩ := hrel
    have HW := Lib.hid hown
    have HX := Lib.hid hnx
    clear hown hnx
    obtain rfl | rfl | rfl : k = 0 ∨ k = 1 ∨ k = 2 := by omega
    · have e1 := i64_and255 (n / 256)
      go_wp2_with (at_builtin; refine wpList_append_own _ rfl _ _ 22 rfl w.heap.size 5 i0 (.int .u8 0) 1 1 Try.underlying22 hi hz0 hz1 hz2 rfl (by decide) _ _ _ rfl (HW.out.alloc _) ⟨wr.heap.size, 0, none⟩ 1 1 [_] rfl rfl (cell_one_new _ _ _) (by simp [Value.oneCell']) (by unfold maxLen; omega) (by omega) (by have := HX.out.size; simp; omega) ?_; intro v' w1 hown' hgrow _)
      have hB1 := below_append HX.out HX.out.size HW.out hgrow
      go_roundw
      case rel => exact ⟨1, by omega, by go_num, by simpa using hown', hB1⟩
      case measure => simp [intOf]
    · have e1 := i64_and255 (n)
      go_wp2_with (at_builtin; refine wpList_append_own _ rfl _ _ 22 rfl w.heap.size 5 i0 (.int .u8 0) 1 1 Try.underlying22 hi hz0 hz1 hz2 rfl (by decide) _ _ _ rfl (HW.out.alloc _) ⟨wr.heap.size, 0, none⟩ 1 1 [_] rfl rfl (cell_one_new _ _ _) (by simp [Value.oneCell']) (by unfold maxLen; omega) (by omega) (by have := HX.out.size; simp; omega) ?_; intro v' w1 hown' hgrow _)
      have hB1 := below_append HX.out HX.out.size HW.out hgrow
      go_roundw
      case rel => exact ⟨2, by omega, by go_num, by simpa using hown', hB1⟩
      case measure => simp [intOf]
    · go_wp2
      go_ret
      obtain ⟨g, c, rfl, hg⟩ := own_form HW.out (by omega)
      exact ⟨g, c, rfl, by simpa using HW.out, HX.out⟩

end Go.Proofs.Ytklmlpnccbmpnaa
