/- IpCore: What the small functions of package ip answer: Right, Size, layCheck, appendNumber, numberIn; bytes.Clone, bytes.Equal. Bytes as a string; bytes.Equal. What 'handfast/ip.numbersOf' and the closure that it hands back do: a head's ten numbers, each with its width. What 'handfast/ip.numbersIn' and the closure that it hands back do: the ten numbers that bytes begin with, each with its place. What 'handfast/ip.Put' answers. What 'handfast/ip.checkOf', 'headOf' and 'Own' answer. Whether two heads are the same. -/
import Derived.Test.YthenbpnlmpeafaaDoorCore
import Derived.Lib.SliceRun
import Derived.Laws.BytesArg
import Derived.Deep.RegionHeld3
import Derived.ControlIn
import Derived.Laws.ResultCell

/- What the small functions of package ip answer: Right, Size, layCheck, appendNumber, numberIn; bytes.Clone, bytes.Equal. -/
namespace Go.Proofs.YthenbpnlmpeafaaDoor
open Go.RowKit
open SumM

/-- Whether a head may be: by its flags, and by how long its options and its payload are. -/
def rightB (fl : Int) (on pn : Nat) : Bool := decide ((fl = 0 ∨ fl = 16384) ∧ on ≤ 40 ∧ on % 4 = 0 ∧ 20 + on + pn ≤ 65535)


set_option maxRecDepth 100000 in
set_option maxHeartbeats 1000000 in
theorem ipRight_any (sv nu fl ho pr sr ds : Int) (oa : Option Addr) (on oc : Nat) (pa : Option Addr) (pn pc : Nat) (w : World) (ho' : on ≤ 281474976710656) (_hp' : pn ≤ 281474976710656) :
    Calls Tryd.prog 45 #[.agg #[.int .u8 sv, .int .u16 nu, .int .u16 fl, .int .u8 ho, .int .u8 pr, .int .u32 sr, .int .u32 ds, .slice oa on oc, .slice pa pn pc]] w fun e w' => e = .returned (.bool (rightB fl on pn)) ∧ Below w.heap.size w w' := by
  have hB : ∀ o : Obj, Below w.heap.size w (w.alloc o) := fun o => (Below.refl w.heap.size w).alloc (Nat.le_refl _) o
  have HB := Lib.hid hB
  clear hB
  have step : ∀ x : Bool, x = rightB fl on pn → Ending.returned (.bool x) = .returned (.bool (rightB fl on pn)) := fun x h => by rw [h]
  have HS := Lib.hid step
  clear step
  by_cases h1 : fl = 0 ∨ fl = 16384
  · by_cases h2 : on ≤ 40
    · by_cases h3 : on % 4 = 0
      · have h3' : ((on : Int) % 4 != 0) = false := by simp; omega
        by_cases h4 : 20 + on + pn ≤ 65535
        · have h4' : decide ((pn : Int) ≤ 65515 - (on : Int)) = true := decide_eq_true (by omega)
          have HR := Lib.hid (show true = rightB fl on pn from (decide_eq_true (⟨h1, h2, h3, h4⟩ : (fl = 0 ∨ fl = 16384) ∧ on ≤ 40 ∧ on % 4 = 0 ∧ 20 + on + pn ≤ 65535)).symm)
          rcases h1 with rfl | rfl
          all_goals
            go_enter Tryd.func45, Tryd.ntmps45
            go_wp2
            go_ret
            exact ⟨HS.out _ HR.out, HB.out _⟩
        · have h4' : decide ((pn : Int) ≤ 65515 - (on : Int)) = false := decide_eq_false (by omega)
          have HR := Lib.hid (show false = rightB fl on pn from (decide_eq_false (fun h : (fl = 0 ∨ fl = 16384) ∧ on ≤ 40 ∧ on % 4 = 0 ∧ 20 + on + pn ≤ 65535 => h4 h.2.2.2)).symm)
          rcases h1 with rfl | rfl
          all_goals
            go_enter Tryd.func45, Tryd.ntmps45
            go_wp2
            go_ret
            exact ⟨HS.out _ HR.out, HB.out _⟩
      · have h3' : ((on : Int) % 4 != 0) = true := by simp; omega
        have HR := Lib.hid (show false = rightB fl on pn from (decide_eq_false (fun h : (fl = 0 ∨ fl = 16384) ∧ on ≤ 40 ∧ on % 4 = 0 ∧ 20 + on + pn ≤ 65535 => h3 h.2.2.1)).symm)
        rcases h1 with rfl | rfl
        all_goals
          go_enter Tryd.func45, Tryd.ntmps45
          go_wp2
          go_ret
          exact ⟨HS.out _ HR.out, HB.out _⟩
    · have HR := Lib.hid (show false = rightB fl on pn from (decide_eq_false (fun h : (fl = 0 ∨ fl = 16384) ∧ on ≤ 40 ∧ on % 4 = 0 ∧ 20 + on + pn ≤ 65535 => h2 h.2.1)).symm)
      rcases h1 with rfl | rfl
      all_goals
        go_enter Tryd.func45, Tryd.ntmps45
        go_wp2
        go_ret
        exact ⟨HS.out _ HR.out, HB.out _⟩
  · have HR := Lib.hid (show false = rightB fl on pn from (decide_eq_false (fun h : (fl = 0 ∨ fl = 16384) ∧ on ≤ 40 ∧ on % 4 = 0 ∧ 20 + on + pn ≤ 65535 => h1 h.1)).symm)
    have a1 : (fl != 0) = true := by simp; omega
    have a2 : (fl != 16384) = true := by simp; omega
    clear h1
    go_enter Tryd.func45, Tryd.ntmps45
    go_wp2
    go_ret
    exact ⟨HS.out _ HR.out, HB.out _⟩

set_option maxRecDepth 100000 in
set_option maxHeartbeats 1000000 in
theorem ipSize_any (sv nu fl ho pr sr ds : Int) (oa : Option Addr) (on oc : Nat) (pa : Option Addr) (pn pc : Nat) (w : World) (ho' : on ≤ 281474976710656) (hp' : pn ≤ 281474976710656) :
    Calls Tryd.prog 46 #[.agg #[.int .u8 sv, .int .u16 nu, .int .u16 fl, .int .u8 ho, .int .u8 pr, .int .u32 sr, .int .u32 ds, .slice oa on oc, .slice pa pn pc]] w fun e w' => e = .returned (.int .i64 (if rightB fl on pn = true then 20 + (on : Int) + pn else 0)) ∧ Below w.heap.size w w' := by
  by_cases hr : rightB fl on pn = true
  · rw [if_pos hr]
    have HR := Lib.hid hr
    clear hr
    go_enter Tryd.func46, Tryd.ntmps46
    go_wp2_with fail
    refine (ipRight_any _ _ _ _ _ _ _ _ _ _ _ _ _ _ ho' hp').mono ?_
    rintro e w1 ⟨rfl, m1⟩
    rw [HR.out]
    obtain ⟨hc, hf⟩ := bcell m1
    go_wp2
    go_ret
    exact ⟨rfl, below_alloc1 m1⟩
  · rw [if_neg hr]
    have HR := Lib.hid (show rightB fl on pn = false by simpa using hr)
    clear hr
    go_enter Tryd.func46, Tryd.ntmps46
    go_wp2_with fail
    refine (ipRight_any _ _ _ _ _ _ _ _ _ _ _ _ _ _ ho' hp').mono ?_
    rintro e w1 ⟨rfl, m1⟩
    rw [HR.out]
    obtain ⟨hc, hf⟩ := bcell m1
    go_wp2
    go_ret
    exact ⟨rfl, below_alloc1 m1⟩


theorem or_num (a b : Int) (ha : 0 ≤ a) (ha' : a < 16777216) (hb : 0 ≤ b) (hb' : b ≤ 255) : bits .or .u32 (a * 256) b = a * 256 + b := by
  rw [u32_or (a * 256) b (by omega) (by omega) hb (by omega)]
  have e : ((a * 256).toNat ||| b.toNat : Nat) = a.toNat * 256 + b.toNat := by
    have := Nat.shiftLeft_add_eq_or_of_lt (i := 8) (b := b.toNat) (by omega) a.toNat
    rw [Nat.shiftLeft_eq] at this
    have e2 : (a * 256).toNat = a.toNat * 2 ^ 8 := by omega
    rw [e2]
    omega
  rw [e]
  omega

set_option maxRecDepth 100000 in
set_option maxHeartbeats 400000 in
theorem numberIn_any (a : Option Addr) (len cap B : Nat) (zs : List Int) (w : World) (h : Row .u8 B w a zs) (hl : zs.length = len) (hs : len ≤ 4) :
    Calls Tryd.prog 71 #[.slice a len cap] w fun e w' => e = .returned (.int .u32 (numOf zs)) ∧ w = w' := by
  have hin : In 255 zs := fun x hx => wf_u8.1 (h.1 x hx)
  have HL := Lib.hid hl
  clear hl
  go_enter Tryd.func71, Tryd.ntmps71
  go_wp2
  go_loop [3, 8] (fun t i => ∃ k : Nat, k ≤ len ∧ i = .int .i64 k ∧ t = .int .u32 (numOf (zs.take k))) (fun _ i => len - (intOf i).toNat)
  case atStart => exact ⟨0, Nat.zero_le _, rfl, rfl⟩
  case round =>
    obtain ⟨k, hk, rfl, rfl⟩ := hrel
    by_cases hlt : k < len
    · obtain ⟨b, off, rfl, _, hc⟩ := h.2 (by rw [HL.out]; omega)
      have hcx := hc k (by rw [HL.out]; omega)
      have hx := getD_in hin (by decide) k
      have hb := numOf_in (zs.take k) (fun x hx => hin x (List.mem_of_mem_take hx))
      have hp : numOf (zs.take k) < 16777216 := by
        have e : (zs.take k).length = k := by simp; rw [HL.out]; omega
        rw [e] at hb
        have : (256 : Int) ^ k ≤ 256 ^ 3 := by
          obtain rfl | rfl | rfl | rfl : k = 0 ∨ k = 1 ∨ k = 2 ∨ k = 3 := by omega
          all_goals decide
        omega
      have HT := Lib.hid (show numOf (zs.take (k + 1)) = numOf (zs.take k) * 256 + zs[k]?.getD 0 by
        have hk' : k < zs.length := by rw [HL.out]; exact hlt
        rw [List.take_add_one, show zs[k]?.toList = [zs[k]?.getD 0] by simp [hk'], numOf_snoc])
      have hO := or_num (numOf (zs.take k)) (zs[k]?.getD 0) hb.1 hp hx.1 hx.2
      have h0 := hb.1
      clear hc h hin hb
      go_wp2
      go_round
      case rel => exact ⟨k + 1, by omega, by go_num, by rw [HT.out]⟩
      case measure => simp [intOf]; omega
    · obtain rfl : k = len := by omega
      have he : zs.take k = zs := List.take_of_length_le (by rw [HL.out]; exact Nat.le_refl _)
      have HE := Lib.hid he
      clear he
      rw [HE.out]
      go_wp2
      go_ret
      exact ⟨rfl, rfl⟩

/-- The call hands back what it was handed, grown; what lay below base lies as it lay. -/
def AppRet (base : Nat) (ts : List TypeId) (m : Nat) (zs : List Int) (w : World) (e : Ending) (w' : World) : Prop :=
  ∃ v, e = .returned v ∧ w'.ownsRow base 5 1 v m (zs.map (Value.int .u8)) ∧ KeepA base ts w w'

set_option maxRecDepth 100000 in
set_option maxHeartbeats 4000000 in
theorem appendNumber_any (base : Nat) (ts : List TypeId) (hts : 5 ∉ ts) (v : Value) (m width : Nat) (zs : List Int) (hw : width = 1 ∨ width = 2 ∨ width = 4) (hm : m ≤ 1000000) (n : Int) (hn : 0 ≤ n) (hn' : n ≤ 4294967295) (w : World) (hown : w.ownsRow base 5 1 v m (zs.map (Value.int .u8))) (hb : base ≤ w.heap.size) :
    Calls Tryd.prog 48 #[v, .int .i64 width, .int .u32 n] w (AppRet base ts (m + width) (zs ++ be width n) w) := by
  obtain ⟨i0, hi, hz0, hz1, hz2⟩ := info_parts Tryd.infoU8
  have HO := Lib.hid hown
  clear hown
  rcases hw with rfl | rfl | rfl
  · show Calls Tryd.prog 48 #[v, .int .i64 1, .int .u32 n] w _
    go_enter Tryd.func48, Tryd.ntmps48
    go_wp2
    go_loopw [0, 9] (fun s i wr => ∃ k : Nat, k ≤ 1 ∧ i = .int .i64 k ∧ wr.ownsRow base 5 1 s (m + k) ((zs ++ upto (fun i => n / 256 ^ (1 - 1 - i) % 256) k).map (Value.int .u8)) ∧ KeepA base ts w wr)
      (fun _ i _ => 1 - (intOf i).toNat)
    case atStart => exact ⟨0, by omega, rfl, by simpa [upto] using HO.out, KeepA.refl _ _ _⟩
    case round =>
      obtain ⟨k, hk, rfl, hown, hnx⟩ := hrel
      have HW := Lib.hid hown
      have HX := Lib.hid hnx
      clear hown hnx
      obtain rfl | rfl : k = 0 ∨ k = 1 := by omega
      · go_wp2_with (at_builtin; refine wpList_append_own _ rfl _ _ 27 rfl base 5 i0 (.int .u8 0) 1 1 Tryd.underlying27 hi hz0 hz1 hz2 rfl (by decide) _ _ _ rfl (HW.out.alloc _) ⟨wr.heap.size, 0, none⟩ 1 1 [_] rfl rfl (cell_one_new _ _ _) (by simp [Value.oneCell']) (by unfold maxLen; omega) (by omega) (by have := HX.out.1.1.size; simp; omega) ?_; intro v' w1 hown' hgrow _)
        have hB1 := keepA_append HX.out (Nat.le_trans hb HX.out.1.1.size) HW.out hts hgrow
        go_roundw
        case rel => exact ⟨1, by omega, rfl, by simpa [upto, List.range_succ, Nat.add_assoc] using hown', hB1⟩
        case measure => simp [intOf]
      · go_wp2
        go_ret
        exact ⟨_, rfl, HW.out, HX.out⟩
  · show Calls Tryd.prog 48 #[v, .int .i64 2, .int .u32 n] w _
    go_enter Tryd.func48, Tryd.ntmps48
    go_wp2
    go_loopw [0, 9] (fun s i wr => ∃ k : Nat, k ≤ 2 ∧ i = .int .i64 k ∧ wr.ownsRow base 5 1 s (m + k) ((zs ++ upto (fun i => n / 256 ^ (2 - 1 - i) % 256) k).map (Value.int .u8)) ∧ KeepA base ts w wr)
      (fun _ i _ => 2 - (intOf i).toNat)
    case atStart => exact ⟨0, by omega, rfl, by simpa [upto] using HO.out, KeepA.refl _ _ _⟩
    case round =>
      obtain ⟨k, hk, rfl, hown, hnx⟩ := hrel
      have HW := Lib.hid hown
      have HX := Lib.hid hnx
      clear hown hnx
      obtain rfl | rfl | rfl : k = 0 ∨ k = 1 ∨ k = 2 := by omega
      · go_wp2_with (at_builtin; refine wpList_append_own _ rfl _ _ 27 rfl base 5 i0 (.int .u8 0) 1 1 Tryd.underlying27 hi hz0 hz1 hz2 rfl (by decide) _ _ _ rfl (HW.out.alloc _) ⟨wr.heap.size, 0, none⟩ 1 1 [_] rfl rfl (cell_one_new _ _ _) (by simp [Value.oneCell']) (by unfold maxLen; omega) (by omega) (by have := HX.out.1.1.size; simp; omega) ?_; intro v' w1 hown' hgrow _)
        have hB1 := keepA_append HX.out (Nat.le_trans hb HX.out.1.1.size) HW.out hts hgrow
        go_roundw
        case rel => exact ⟨1, by omega, rfl, by simpa [upto, List.range_succ, Nat.add_assoc] using hown', hB1⟩
        case measure => simp [intOf]
      · go_wp2_with (at_builtin; refine wpList_append_own _ rfl _ _ 27 rfl base 5 i0 (.int .u8 0) 1 1 Tryd.underlying27 hi hz0 hz1 hz2 rfl (by decide) _ _ _ rfl (HW.out.alloc _) ⟨wr.heap.size, 0, none⟩ 1 1 [_] rfl rfl (cell_one_new _ _ _) (by simp [Value.oneCell']) (by unfold maxLen; omega) (by omega) (by have := HX.out.1.1.size; simp; omega) ?_; intro v' w1 hown' hgrow _)
        have hB1 := keepA_append HX.out (Nat.le_trans hb HX.out.1.1.size) HW.out hts hgrow
        go_roundw
        case rel => exact ⟨2, by omega, rfl, by simpa [upto, List.range_succ, Nat.add_assoc] using hown', hB1⟩
        case measure => simp [intOf]
      · go_wp2
        go_ret
        exact ⟨_, rfl, HW.out, HX.out⟩
  · show Calls Tryd.prog 48 #[v, .int .i64 4, .int .u32 n] w _
    go_enter Tryd.func48, Tryd.ntmps48
    go_wp2
    go_loopw [0, 9] (fun s i wr => ∃ k : Nat, k ≤ 4 ∧ i = .int .i64 k ∧ wr.ownsRow base 5 1 s (m + k) ((zs ++ upto (fun i => n / 256 ^ (4 - 1 - i) % 256) k).map (Value.int .u8)) ∧ KeepA base ts w wr)
      (fun _ i _ => 4 - (intOf i).toNat)
    case atStart => exact ⟨0, by omega, rfl, by simpa [upto] using HO.out, KeepA.refl _ _ _⟩
    case round =>
      obtain ⟨k, hk, rfl, hown, hnx⟩ := hrel
      have HW := Lib.hid hown
      have HX := Lib.hid hnx
      clear hown hnx
      obtain rfl | rfl | rfl | rfl | rfl : k = 0 ∨ k = 1 ∨ k = 2 ∨ k = 3 ∨ k = 4 := by omega
      · go_wp2_with (at_builtin; refine wpList_append_own _ rfl _ _ 27 rfl base 5 i0 (.int .u8 0) 1 1 Tryd.underlying27 hi hz0 hz1 hz2 rfl (by decide) _ _ _ rfl (HW.out.alloc _) ⟨wr.heap.size, 0, none⟩ 1 1 [_] rfl rfl (cell_one_new _ _ _) (by simp [Value.oneCell']) (by unfold maxLen; omega) (by omega) (by have := HX.out.1.1.size; simp; omega) ?_; intro v' w1 hown' hgrow _)
        have hB1 := keepA_append HX.out (Nat.le_trans hb HX.out.1.1.size) HW.out hts hgrow
        go_roundw
        case rel => exact ⟨1, by omega, rfl, by simpa [upto, List.range_succ, Nat.add_assoc, show n / 16777216 % 256 = n / 16777216 by omega] using hown', hB1⟩
        case measure => simp [intOf]
      · go_wp2_with (at_builtin; refine wpList_append_own _ rfl _ _ 27 rfl base 5 i0 (.int .u8 0) 1 1 Tryd.underlying27 hi hz0 hz1 hz2 rfl (by decide) _ _ _ rfl (HW.out.alloc _) ⟨wr.heap.size, 0, none⟩ 1 1 [_] rfl rfl (cell_one_new _ _ _) (by simp [Value.oneCell']) (by unfold maxLen; omega) (by omega) (by have := HX.out.1.1.size; simp; omega) ?_; intro v' w1 hown' hgrow _)
        have hB1 := keepA_append HX.out (Nat.le_trans hb HX.out.1.1.size) HW.out hts hgrow
        go_roundw
        case rel => exact ⟨2, by omega, rfl, by simpa [upto, List.range_succ, Nat.add_assoc] using hown', hB1⟩
        case measure => simp [intOf]
      · go_wp2_with (at_builtin; refine wpList_append_own _ rfl _ _ 27 rfl base 5 i0 (.int .u8 0) 1 1 Tryd.underlying27 hi hz0 hz1 hz2 rfl (by decide) _ _ _ rfl (HW.out.alloc _) ⟨wr.heap.size, 0, none⟩ 1 1 [_] rfl rfl (cell_one_new _ _ _) (by simp [Value.oneCell']) (by unfold maxLen; omega) (by omega) (by have := HX.out.1.1.size; simp; omega) ?_; intro v' w1 hown' hgrow _)
        have hB1 := keepA_append HX.out (Nat.le_trans hb HX.out.1.1.size) HW.out hts hgrow
        go_roundw
        case rel => exact ⟨3, by omega, rfl, by simpa [upto, List.range_succ, Nat.add_assoc] using hown', hB1⟩
        case measure => simp [intOf]
      · go_wp2_with (at_builtin; refine wpList_append_own _ rfl _ _ 27 rfl base 5 i0 (.int .u8 0) 1 1 Tryd.underlying27 hi hz0 hz1 hz2 rfl (by decide) _ _ _ rfl (HW.out.alloc _) ⟨wr.heap.size, 0, none⟩ 1 1 [_] rfl rfl (cell_one_new _ _ _) (by simp [Value.oneCell']) (by unfold maxLen; omega) (by omega) (by have := HX.out.1.1.size; simp; omega) ?_; intro v' w1 hown' hgrow _)
        have hB1 := keepA_append HX.out (Nat.le_trans hb HX.out.1.1.size) HW.out hts hgrow
        go_roundw
        case rel => exact ⟨4, by omega, rfl, by simpa [upto, List.range_succ, Nat.add_assoc] using hown', hB1⟩
        case measure => simp [intOf]
      · go_wp2
        go_ret
        exact ⟨_, rfl, HW.out, HX.out⟩

set_option maxRecDepth 100000 in
theorem layCheck_any (g n cap base : Nat) (zs : List Int) (w : World) (c : Int) (hc : 0 ≤ c ∧ c ≤ 65535) (hn : 12 ≤ n) (hm : n ≤ 1048576) (h : w.ownsRow base 5 1 (.slice (some ⟨g, 0, none⟩) n cap) n (zs.map (Value.int .u8))) :
    Calls Tryd.prog 49 #[.slice (some ⟨g, 0, none⟩) n cap, .int .u16 c] w fun e w' => (∃ v, e = .returned v) ∧ w' = (w.setCell ⟨g, 10, none⟩ (.int .u8 (c / 256))).setCell ⟨g, 11, none⟩ (.int .u8 (c % 256)) := by
  have h1 := own_store h 10 (c / 256)
  have e1 := own_cell h 10 (by omega)
  have f1 := h.frozenAt 10
  have e2 := own_cell h1 11 (by omega)
  have f2 := h1.frozenAt 11
  go_enter Tryd.func49, Tryd.ntmps49
  go_wp2
  go_end0
  exact ⟨⟨_, rfl⟩, rfl⟩
end Go.Proofs.YthenbpnlmpeafaaDoor

/- Bytes as a string; bytes.Equal. -/
namespace Go.Proofs.YthenbpnlmpeafaaDoor
open Go.RowKit
open SumM



end Go.Proofs.YthenbpnlmpeafaaDoor

/- What 'handfast/ip.numbersOf' and the closure that it hands back do: a head's ten numbers, each with its width. -/
namespace Go.Proofs.YthenbpnlmpeafaaDoor
open Go.RowKit Go.Shelf
open SumM

attribute [local go_sem] Oper.semAt_some

theorem rightB_le {fl : Int} {on pn : Nat} (h : rightB fl on pn = true) : on ≤ 40 ∧ on % 4 = 0 ∧ 20 + on + pn ≤ 65535 := (of_decide_eq_true h).2
theorem ipSize_yes (sv nu fl ho pr sr ds : Int) (oa : Option Addr) (on oc : Nat) (pa : Option Addr) (pn pc : Nat) (w : World) (h : rightB fl on pn = true) :
    Calls Tryd.prog 46 #[.agg #[.int .u8 sv, .int .u16 nu, .int .u16 fl, .int .u8 ho, .int .u8 pr, .int .u32 sr, .int .u32 ds, .slice oa on oc, .slice pa pn pc]] w fun e w' => e = .returned (.int .i64 (20 + (on : Int) + pn)) ∧ Below w.heap.size w w' := by
  have hsz := rightB_le h
  have := ipSize_any sv nu fl ho pr sr ds oa on oc pa pn pc w (by omega) (by omega)
  rwa [if_pos h] at this
/-- The widths of a head's ten numbers. -/
def widthAt (i : Nat) : Nat := [1, 1, 2, 2, 2, 1, 1, 2, 4, 4][i]?.getD 1
/-- The package's variable 'widths' holds what its text says. -/
def Wid (w : World) : Prop := ∀ i, i < 10 → w.cell? ⟨0, i, none⟩ = some (.int .i64 (widthAt i))
/-- A head's ten numbers. -/
def numAt (sv nu fl ho pr sr ds : Int) (on pn i : Nat) : Int :=
  [64 + (20 + (on : Int)) / 4, sv, 20 + (on : Int) + pn, nu, fl, ho, pr, 0, sr, ds][i]?.getD 0

/-- The array of a head's numbers lies in a block of its own; what lay lies as it lay. -/
def ArrAt (W w' : World) (Ba : Nat) (sv nu fl ho pr sr ds : Int) (on pn : Nat) : Prop :=
  (∃ cur : Array Value, w'.heap[Ba]? = some (.cells cur 90 (0, 0))) ∧ (∀ i, i < 10 → w'.cell? ⟨Ba, i, none⟩ = some (.int .u32 (numAt sv nu fl ho pr sr ds on pn i))) ∧ Below W.heap.size W w'

/-- A width and a number. -/
abbrev WN := { x : Nat × Int // 0 ≤ x.2 ∧ x.2 ≤ 4294967295 ∧ (x.1 = 1 ∨ x.1 = 2 ∨ x.1 = 4) }

theorem Tryd.info50 : (Tryd.prog.info? 90).map (·.size) = some 10 := by kernel_rfl

theorem widthAt_is (i : Nat) : widthAt i = 1 ∨ widthAt i = 2 ∨ widthAt i = 4 := by
  rcases Nat.lt_or_ge i 10 with h | h
  · obtain rfl | rfl | rfl | rfl | rfl | rfl | rfl | rfl | rfl | rfl : i = 0 ∨ i = 1 ∨ i = 2 ∨ i = 3 ∨ i = 4 ∨ i = 5 ∨ i = 6 ∨ i = 7 ∨ i = 8 ∨ i = 9 := by omega
    all_goals decide
  · left
    simp [widthAt, List.getElem?_eq_none (show [1, 1, 2, 2, 2, 1, 1, 2, 4, 4].length ≤ i from h)]
theorem numAt_in {sv nu fl ho pr sr ds : Int} {on pn : Nat} (hsv : 0 ≤ sv ∧ sv ≤ 255) (hnu : 0 ≤ nu ∧ nu ≤ 65535) (hfl : 0 ≤ fl ∧ fl ≤ 65535) (hho : 0 ≤ ho ∧ ho ≤ 255) (hpr : 0 ≤ pr ∧ pr ≤ 255) (hsr : 0 ≤ sr ∧ sr ≤ 4294967295) (hds : 0 ≤ ds ∧ ds ≤ 4294967295) (hsz : on ≤ 40 ∧ on % 4 = 0 ∧ 20 + on + pn ≤ 65535) (i : Nat) : 0 ≤ numAt sv nu fl ho pr sr ds on pn i ∧ numAt sv nu fl ho pr sr ds on pn i ≤ 4294967295 := by
  rcases Nat.lt_or_ge i 10 with h | h
  · obtain rfl | rfl | rfl | rfl | rfl | rfl | rfl | rfl | rfl | rfl : i = 0 ∨ i = 1 ∨ i = 2 ∨ i = 3 ∨ i = 4 ∨ i = 5 ∨ i = 6 ∨ i = 7 ∨ i = 8 ∨ i = 9 := by omega
    all_goals (simp [numAt]; try omega)
  · have : numAt sv nu fl ho pr sr ds on pn i = 0 := by simp [numAt, List.getElem?_eq_none (show [64 + (20 + (on : Int)) / 4, sv, 20 + (on : Int) + pn, nu, fl, ho, pr, 0, sr, ds].length ≤ i from h)]
    omega
/-- The i-th width and number. -/
def wnAt (f : Nat → Int) (hf : ∀ i, 0 ≤ f i ∧ f i ≤ 4294967295) (i : Nat) : WN := ⟨(widthAt i, f i), (hf i).1, (hf i).2, widthAt_is i⟩

set_option maxRecDepth 100000 in
theorem run_widths (k : Nat) (hk : k < 10) (w : World) : (Instr.index 107 (.agg #[.int .i64 1, .int .i64 1, .int .i64 2, .int .i64 2, .int .i64 2, .int .i64 1, .int .i64 1, .int .i64 2, .int .i64 4, .int .i64 4]) (.int .i64 k)).run Tryd.prog w = .ok (.int .i64 (widthAt k)) w := by
  obtain rfl | rfl | rfl | rfl | rfl | rfl | rfl | rfl | rfl | rfl : k = 0 ∨ k = 1 ∨ k = 2 ∨ k = 3 ∨ k = 4 ∨ k = 5 ∨ k = 6 ∨ k = 7 ∨ k = 8 ∨ k = 9 := by omega
  all_goals (go_simp; first | rfl | done)

theorem arr_vals {sv nu fl ho pr sr ds : Int} {on pn : Nat} (hsv : 0 ≤ sv ∧ sv ≤ 255) (hnu : 0 ≤ nu ∧ nu ≤ 65535) (hfl : 0 ≤ fl ∧ fl ≤ 65535) (hho : 0 ≤ ho ∧ ho ≤ 255) (hpr : 0 ≤ pr ∧ pr ≤ 255) (hsz : on ≤ 40 ∧ on % 4 = 0 ∧ 20 + on + pn ≤ 65535) :
    ([.int .u32 (IntKind.u32.wrap (IntKind.i64.wrap (64 + IntKind.i64.wrap ((IntKind.i64.wrap (20 + (on : Int))).tdiv 4)))), .int .u32 (IntKind.u32.wrap sv), .int .u32 (IntKind.u32.wrap (20 + (on : Int) + (pn : Int))), .int .u32 (IntKind.u32.wrap nu), .int .u32 (IntKind.u32.wrap fl), .int .u32 (IntKind.u32.wrap ho), .int .u32 (IntKind.u32.wrap pr), .int .u32 0, .int .u32 sr, .int .u32 ds] : List Value)
      = (List.range 10).map (fun i => .int .u32 (numAt sv nu fl ho pr sr ds on pn i)) := by
  have e1 : IntKind.i64.wrap (20 + (on : Int)) = 20 + on := IntWalk.i64_in _ (by omega)
  have e2 : (20 + (on : Int)).tdiv 4 = (20 + on) / 4 := Int.tdiv_eq_ediv_of_nonneg (by omega)
  have e3 : IntKind.i64.wrap ((20 + (on : Int)) / 4) = (20 + on) / 4 := IntWalk.i64_in _ (by omega)
  have e4 : IntKind.i64.wrap (64 + (20 + (on : Int)) / 4) = 64 + (20 + on) / 4 := IntWalk.i64_in _ (by omega)
  have e5 : ∀ x : Int, 0 ≤ x → x ≤ 4294967295 → IntKind.u32.wrap x = x := fun x h h' => IntWalk.u32_in _ (by omega)
  rw [e1, e2, e3, e4, e5 _ (by omega) (by omega), e5 sv (by omega) (by omega), e5 _ (by omega) (by omega), e5 nu (by omega) (by omega), e5 fl (by omega) (by omega), e5 ho (by omega) (by omega), e5 pr (by omega) (by omega)]
  rfl
theorem arr_mk {W w2 : World} {Ba : Nat} {cur : Array Value} (hH : w2.heap[Ba]? = some (.cells cur 90 (0, 0))) (h10 : cur.size = 10) (hb : Below W.heap.size W w2) (hBa : W.heap.size ≤ Ba) (sv nu fl ho pr sr ds : Int) (on pn : Nat) (vs : List Value)
    (hv : vs = (List.range 10).map (fun i => .int .u32 (numAt sv nu fl ho pr sr ds on pn i))) : ArrAt W (w2.setCells Ba 0 vs) Ba sv nu fl ho pr sr ds on pn := by
  have hl : vs.length = 10 := by rw [hv]; simp
  obtain ⟨cur', h1, h2⟩ := row_setCells hH vs (by omega)
  refine ⟨⟨cur', h1⟩, fun i hi => ?_, below_setCells Ba hBa vs 0 _ _ hb⟩
  rw [h2 i (by omega)]
  subst hv
  simp

set_option maxRecDepth 100000 in
set_option maxHeartbeats 8000000 in
theorem nums_in (sv nu fl ho pr sr ds : Int) (oa : Option Addr) (on oc : Nat) (pa : Option Addr) (pn pc : Nat) (n : Nat) (hn : 1 ≤ n) (l Bs n₀ : Nat) (hsv : 0 ≤ sv ∧ sv ≤ 255) (hnu : 0 ≤ nu ∧ nu ≤ 65535) (hfl : 0 ≤ fl ∧ fl ≤ 65535) (hho : 0 ≤ ho ∧ ho ≤ 255) (hpr : 0 ≤ pr ∧ pr ≤ 255) (hsr : 0 ≤ sr ∧ sr ≤ 4294967295) (hds : 0 ≤ ds ∧ ds ≤ 4294967295) (hrt : rightB fl on pn = true)
    (J Jx : List WN → World → Prop) (W : World) (hJ : AbidesFrom W.heap.size J) (hn₀ : n₀ ≤ W.heap.size) (hg₀ : 0 < n₀)
    (hY : ∀ pre x W, J pre W → pre.length < 10 → YieldAt Fence.wide (n - 1) Tryd.prog l #[.int .i64 x.1.1, .int .u32 x.1.2] W fun e W' =>
      (e = .returned (.bool true) ∧ J (pre ++ [x]) W' ∧ KeepT n₀ [90, 51] W W') ∨ (e = .returned (.bool false) ∧ Jx (pre ++ [x]) W'))
    (hB : W.heap[Bs]? = some (.cells #[.int .u8 sv, .int .u16 nu, .int .u16 fl, .int .u8 ho, .int .u8 pr, .int .u32 sr, .int .u32 ds, .slice oa on oc, .slice pa pn pc] 51 (0, 0))) (hW : Wid W) (h0 : J [] W) :
    CallsIn Fence.wide n Tryd.prog 67 #[.func (.yield l) #[] #[], .pointer (some ⟨Bs, 0, none⟩)] W fun e W' => (∃ v, e = .returned v) ∧
      ((∃ ys : List WN, ys.map (·.1) = (List.range 10).map (fun i => (widthAt i, numAt sv nu fl ho pr sr ds on pn i)) ∧ J ys W') ∨ (∃ pre, pre.length ≤ 10 ∧ Jx pre W')) := by
  refine callsIn_of_wp Tryd.func67 rfl trivial ?_ rfl
  simp only [Tryd.ntmps67, List.size_toArray, List.length_cons, List.length_nil, Nat.reduceAdd, Nat.reduceSub, Array.replicate_succ, Array.replicate_zero, List.push_toArray, List.append_toArray, List.nil_append, List.cons_append]
  have c0 : W.cell? ⟨Bs, 0, none⟩ = some (.int .u8 sv) := by rw [cell_of_row _ _ _ _ _ _ hB]; rfl
  have c1 : W.cell? ⟨Bs, 1, none⟩ = some (.int .u16 nu) := by rw [cell_of_row _ _ _ _ _ _ hB]; rfl
  have c2 : W.cell? ⟨Bs, 2, none⟩ = some (.int .u16 fl) := by rw [cell_of_row _ _ _ _ _ _ hB]; rfl
  have c3 : W.cell? ⟨Bs, 3, none⟩ = some (.int .u8 ho) := by rw [cell_of_row _ _ _ _ _ _ hB]; rfl
  have c4 : W.cell? ⟨Bs, 4, none⟩ = some (.int .u8 pr) := by rw [cell_of_row _ _ _ _ _ _ hB]; rfl
  have c5 : W.cell? ⟨Bs, 5, none⟩ = some (.int .u32 sr) := by rw [cell_of_row _ _ _ _ _ _ hB]; rfl
  have c6 : W.cell? ⟨Bs, 6, none⟩ = some (.int .u32 ds) := by rw [cell_of_row _ _ _ _ _ _ hB]; rfl
  have c7 : W.cell? ⟨Bs, 7, none⟩ = some (.slice oa on oc) := by rw [cell_of_row _ _ _ _ _ _ hB]; rfl
  have c8 : W.cell? ⟨Bs, 8, none⟩ = some (.slice pa pn pc) := by rw [cell_of_row _ _ _ _ _ _ hB]; rfl
  have hsz := rightB_le hrt
  have HR := Lib.hid hrt
  clear hrt
  have hlt : Bs < W.heap.size := (Array.getElem?_eq_some_iff.1 hB).1
  have HY := Lib.hid hY
  have HJ := Lib.hid hJ
  have HB := Lib.hid hB
  clear hY hJ hB
  gi_wp2
  refine Go.wpIn_mono (Q := fun e a' w' => e = .normal ∧ ∃ (Ba : Nat) (x6 x7 x8 x9 x10 x11 x12 x13 x14 x15 x16 x17 x18 x19 x20 x21 x22 x23 x24 x25 x26 x27 x28 x29 x30 x31 x32 x33 x34 x35 : Value), a' = { tmps := #[.func (.yield l) #[] #[], .pointer (some ⟨Bs, 0, none⟩), undef, .pointer (some ⟨Ba, 0, none⟩), undef, undef, x6, x7, x8, x9, x10, x11, x12, x13, x14, x15, x16, x17, x18, x19, x20, x21, x22, x23, x24, x25, x26, x27, x28, x29, x30, x31, x32, x33, x34, x35, undef, undef, undef, undef, undef, undef, undef, undef, undef, undef, undef, undef, undef], defers := [] } ∧ ArrAt W w' Ba sv nu fl ho pr sr ds on pn) ?reg ?post
  case reg =>
    rw [wpIn_wide]
    have hOne : ∀ v ∈ ([.int .u32 (IntKind.u32.wrap (IntKind.i64.wrap (64 + IntKind.i64.wrap ((IntKind.i64.wrap (20 + (on : Int))).tdiv 4)))), .int .u32 (IntKind.u32.wrap sv), .int .u32 (IntKind.u32.wrap (20 + (on : Int) + (pn : Int))), .int .u32 (IntKind.u32.wrap nu), .int .u32 (IntKind.u32.wrap fl), .int .u32 (IntKind.u32.wrap ho), .int .u32 (IntKind.u32.wrap pr), .int .u32 0, .int .u32 sr, .int .u32 ds] : List Value), v.oneCell' = true := by simp [Value.oneCell']
    have hI := Tryd.info50
    have HV0 := Lib.hid (arr_vals (sr := sr) (ds := ds) hsv hnu hfl hho hpr hsz)
    go_region_held3 (fun w' => w'.cell? ⟨Bs, 0, none⟩ = some (.int .u8 sv) ∧ w'.cell? ⟨Bs, 1, none⟩ = some (.int .u16 nu) ∧ w'.cell? ⟨Bs, 2, none⟩ = some (.int .u16 fl) ∧ w'.cell? ⟨Bs, 3, none⟩ = some (.int .u8 ho) ∧ w'.cell? ⟨Bs, 4, none⟩ = some (.int .u8 pr) ∧ w'.cell? ⟨Bs, 5, none⟩ = some (.int .u32 sr) ∧ w'.cell? ⟨Bs, 6, none⟩ = some (.int .u32 ds) ∧ w'.cell? ⟨Bs, 7, none⟩ = some (.slice oa on oc) ∧ w'.cell? ⟨Bs, 8, none⟩ = some (.slice pa pn pc)) (first | with_reducible exact ⟨cell_sc hneA (cell_al LL hlt d0), cell_sc hneA (cell_al LL hlt d1), cell_sc hneA (cell_al LL hlt d2), cell_sc hneA (cell_al LL hlt d3), cell_sc hneA (cell_al LL hlt d4), cell_sc hneA (cell_al LL hlt d5), cell_sc hneA (cell_al LL hlt d6), cell_sc hneA (cell_al LL hlt d7), cell_sc hneA (cell_al LL hlt d8)⟩ | with_reducible exact ⟨cell_sc hneB d0, cell_sc hneB d1, cell_sc hneB d2, cell_sc hneB d3, cell_sc hneB d4, cell_sc hneB d5, cell_sc hneB d6, cell_sc hneB d7, cell_sc hneB d8⟩ | exact ⟨d0, d1, d2, d3, d4, d5, d6, d7, d8⟩ | exact ⟨c0, c1, c2, c3, c4, c5, c6, c7, c8⟩ | exact ⟨cell_al LL hlt d0, cell_al LL hlt d1, cell_al LL hlt d2, cell_al LL hlt d3, cell_al LL hlt d4, cell_al LL hlt d5, cell_al LL hlt d6, cell_al LL hlt d7, cell_al LL hlt d8⟩ | exact ⟨cell_al (Below.refl _ _) hlt c0, cell_al (Below.refl _ _) hlt c1, cell_al (Below.refl _ _) hlt c2, cell_al (Below.refl _ _) hlt c3, cell_al (Below.refl _ _) hlt c4, cell_al (Below.refl _ _) hlt c5, cell_al (Below.refl _ _) hlt c6, cell_al (Below.refl _ _) hlt c7, cell_al (Below.refl _ _) hlt c8⟩)
      (first
        | (go_at_call 46; refine (ipSize_yes _ _ _ _ _ _ _ _ _ _ _ _ _ _ HR.out).mono ?_; rintro e w1 ⟨rfl, m1⟩; have LL : Below W.heap.size W w1 := (by first | exact below_drew m1 | exact below_drew_alloc m1); have d0 := (LL.cell (p := ⟨Bs, 0, none⟩) hlt).trans c0; have d1 := (LL.cell (p := ⟨Bs, 1, none⟩) hlt).trans c1; have d2 := (LL.cell (p := ⟨Bs, 2, none⟩) hlt).trans c2; have d3 := (LL.cell (p := ⟨Bs, 3, none⟩) hlt).trans c3; have d4 := (LL.cell (p := ⟨Bs, 4, none⟩) hlt).trans c4; have d5 := (LL.cell (p := ⟨Bs, 5, none⟩) hlt).trans c5; have d6 := (LL.cell (p := ⟨Bs, 6, none⟩) hlt).trans c6; have d7 := (LL.cell (p := ⟨Bs, 7, none⟩) hlt).trans c7; have d8 := (LL.cell (p := ⟨Bs, 8, none⟩) hlt).trans c8; have hneA : Bs ≠ w1.heap.size := Nat.ne_of_lt (Nat.lt_of_lt_of_le hlt LL.size); have hneB : Bs ≠ W.heap.size := Nat.ne_of_lt hlt; have hTA := there_row (heap_alloc_new w1 (.cells #[.int .u32 0, .int .u32 0, .int .u32 0, .int .u32 0, .int .u32 0, .int .u32 0, .int .u32 0, .int .u32 0, .int .u32 0, .int .u32 0] 90)) 10 (Nat.le_refl _); (first | with_reducible (have hHB := new_keep W _ _ m1) | with_reducible (have hHB := new_keep' W _ _ m1) | (have hHB : True := trivial)); (first | with_reducible (have hTB := there_row hHB 10 (Nat.le_refl _)) | skip)))
    all_goals
      refine ⟨rfl, _, _, _, _, _, _, _, _, _, _, _, _, _, _, _, _, _, _, _, _, _, _, _, _, _, _, _, _, _, _, _, rfl, ?_⟩
      first
        | with_reducible exact arr_mk (heap_alloc_new w1 _) rfl (LL.alloc LL.size _) LL.size sv nu fl ho pr sr ds on pn _ HV0.out
        | with_reducible exact arr_mk hHB rfl LL (Nat.le_refl _) sv nu fl ho pr sr ds on pn _ HV0.out
  case post =>
    rintro e a' w' ⟨rfl, Ba, x6, x7, x8, x9, x10, x11, x12, x13, x14, x15, x16, x17, x18, x19, x20, x21, x22, x23, x24, x25, x26, x27, x28, x29, x30, x31, x32, x33, x34, x35, rfl, ⟨cur, hcur⟩, hcells, hbel⟩
    have hW' : Wid w' := fun i hi => (hbel.cell (p := ⟨0, i, none⟩) (Nat.lt_of_lt_of_le hg₀ hn₀)).trans (hW i hi)
    have g0 : w'.cell? ⟨0, 0, none⟩ = some (.int .i64 1) := hW' 0 (by decide)
    have g1 : w'.cell? ⟨0, 1, none⟩ = some (.int .i64 1) := hW' 1 (by decide)
    have g2 : w'.cell? ⟨0, 2, none⟩ = some (.int .i64 2) := hW' 2 (by decide)
    have g3 : w'.cell? ⟨0, 3, none⟩ = some (.int .i64 2) := hW' 3 (by decide)
    have g4 : w'.cell? ⟨0, 4, none⟩ = some (.int .i64 2) := hW' 4 (by decide)
    have g5 : w'.cell? ⟨0, 5, none⟩ = some (.int .i64 1) := hW' 5 (by decide)
    have g6 : w'.cell? ⟨0, 6, none⟩ = some (.int .i64 1) := hW' 6 (by decide)
    have g7 : w'.cell? ⟨0, 7, none⟩ = some (.int .i64 2) := hW' 7 (by decide)
    have g8 : w'.cell? ⟨0, 8, none⟩ = some (.int .i64 4) := hW' 8 (by decide)
    have g9 : w'.cell? ⟨0, 9, none⟩ = some (.int .i64 4) := hW' 9 (by decide)
    have hJ' : J [] w' := HJ.out [] W w' none h0 (grown_of_below hbel none) (fun r h => by cases h)
    have hf := fun i => numAt_in hsv hnu hfl hho hpr hsr hds hsz i
    generalize hF : numAt sv nu fl ho pr sr ds on pn = f at hcells hf
    clear hsv hnu hfl hho hpr hsr hds hsz c0 c1 c2 c3 c4 c5 c6 c7 c8 hW hW' HR HB
    have HF := Lib.hid hF
    clear hF
    gi_wp2
    clear g0 g1 g2 g3 g4 g5 g6 g7 g8 g9
    gi_loopw [37] (fun i wr => ∃ k : Nat, k ≤ 10 ∧ i = .int .i64 k ∧ J (uptoA (wnAt f hf) k) wr ∧ KeepT n₀ [90, 51] w' wr)
      (fun i _ => 10 - (intOf i).toNat)
    case atStart => exact ⟨0, by omega, rfl, hJ', KeepT.refl _ _ _⟩
    case round =>
      obtain ⟨k, hk, rfl, hJs, hnx⟩ := hrel
      by_cases hlt10 : k < 10
      · have hcB := hnx.2 Ba cur _ _ (by simp) hcur
        have hcx : wr.cell? ⟨Ba, k, none⟩ = some (.int .u32 (f k)) := by
          rw [← hcells k hlt10, cell_of_row _ _ _ _ _ _ hcB, cell_of_row _ _ _ _ _ _ hcur]
        obtain ⟨fn, tmps, assign, body, hy, hRd⟩ := HY.out _ (wnAt f hf k) wr hJs (by rw [uptoA_length]; omega)
        have hix := run_widths k hlt10 wr
        have hw4 := widthAt_is k
        have hfk := hf k
        have FIN : Hid (∀ (e : Ending) (W3 : World), ((e = .returned (.bool true) ∧ J (uptoA (wnAt f hf) k ++ [wnAt f hf k]) W3 ∧ KeepT n₀ [90, 51] wr W3) ∨ (e = .returned (.bool false) ∧ Jx (uptoA (wnAt f hf) k ++ [wnAt f hf k]) W3)) →
            (e = .returned (.bool true) ∧ Hid (J (uptoA (wnAt f hf) (k + 1)) W3) ∧ Hid (KeepT n₀ [90, 51] w' W3)) ∨ (e = .returned (.bool false) ∧ Hid (Jx (uptoA (wnAt f hf) (k + 1)) W3))) := Lib.hid (by
          intro e W3 h
          rw [← uptoA_succ] at h
          exact h.imp (fun h => ⟨h.1, Lib.hid h.2.1, Lib.hid (keepT_t hnx h.2.2)⟩) (fun h => ⟨h.1, Lib.hid h.2⟩))
        have hy' : (Instr.yield l #[.int .i64 (widthAt k), .int .u32 (f k)]).run Tryd.prog wr = .ok (.round l fn tmps assign body) wr := hy
        clear hy hcells hcB hcur
        gi_wp2
        refine hRd.mono ?_
        intro e W3 h
        rcases FIN.out e W3 h with ⟨rfl, hJ3, hk3⟩ | ⟨rfl, hJx3⟩
        · gi_wp2
          go_roundw
          case rel => exact ⟨k + 1, by omega, by go_num, hJ3.out, hk3.out⟩
          case measure => simp [intOf]; omega
        · gi_wp2
          refine bodyPost_ret (results_none rfl _ _ _) rfl ?_
          exact ⟨⟨_, rfl⟩, .inr ⟨_, by rw [uptoA_length]; omega, hJx3.out⟩⟩
      · obtain rfl : k = 10 := by omega
        gi_wp2
        go_end0
        refine ⟨⟨_, rfl⟩, .inl ⟨_, ?_, hJs⟩⟩
        rw [HF.out]
        simp [uptoA, wnAt]
end Go.Proofs.YthenbpnlmpeafaaDoor

/- What 'handfast/ip.numbersIn' and the closure that it hands back do: the ten numbers that bytes begin with, each with its place. -/
namespace Go.Proofs.YthenbpnlmpeafaaDoor
open Go.RowKit Go.Shelf
open SumM

attribute [local go_sem] Oper.semAt_some

/-- Where the i-th number begins. -/
def offAt (i : Nat) : Nat := [0, 1, 2, 4, 6, 8, 9, 10, 12, 16, 20][i]?.getD 20
theorem offAt_succ (k : Nat) (hk : k < 10) : offAt (k + 1) = offAt k + widthAt k ∧ offAt k + widthAt k ≤ 20 := by
  obtain rfl | rfl | rfl | rfl | rfl | rfl | rfl | rfl | rfl | rfl : k = 0 ∨ k = 1 ∨ k = 2 ∨ k = 3 ∨ k = 4 ∨ k = 5 ∨ k = 6 ∨ k = 7 ∨ k = 8 ∨ k = 9 := by omega
  all_goals decide
/-- The i-th number that bytes begin with. -/
def segAt (bs : List Int) (i : Nat) : Int := numOf ((bs.drop (offAt i)).take (widthAt i))
theorem segAt_in {bs : List Int} (h : In 255 bs) (i : Nat) : 0 ≤ segAt bs i ∧ segAt bs i ≤ 4294967295 := by
  have := numOf_in ((bs.drop (offAt i)).take (widthAt i)) (in_take (in_drop h _) _)
  have hl : ((bs.drop (offAt i)).take (widthAt i)).length ≤ 4 := by
    have := widthAt_is i
    simp only [List.length_take]
    omega
  have hp : (256 : Int) ^ ((bs.drop (offAt i)).take (widthAt i)).length ≤ 256 ^ 4 := by
    generalize ((bs.drop (offAt i)).take (widthAt i)).length = m at hl
    obtain rfl | rfl | rfl | rfl | rfl : m = 0 ∨ m = 1 ∨ m = 2 ∨ m = 3 ∨ m = 4 := by omega
    all_goals decide
  exact ⟨this.1, by have h2 := this.2; have e : (256 : Int) ^ 4 = 4294967296 := by decide
                    unfold segAt; omega⟩
/-- A place and a number. -/
abbrev PN := { x : Nat × Int // x.1 < 10 ∧ 0 ≤ x.2 ∧ x.2 ≤ 4294967295 }
def pnAt (bs : List Int) (h : In 255 bs) (i : Nat) : PN := if hi : i < 10 then ⟨(i, segAt bs i), hi, segAt_in h i⟩ else ⟨(0, 0), by decide⟩
theorem pnAt_val {bs : List Int} (h : In 255 bs) {i : Nat} (hi : i < 10) : (pnAt bs h i).1 = (i, segAt bs i) := by unfold pnAt; rw [dif_pos hi]

set_option maxHeartbeats 1000000 in
theorem numbersIn_in (n : Nat) (a : Option Addr) (len cap : Nat) (w : World) :
    CallsIn Fence.wide n Tryd.prog 57 #[.slice a len cap] w fun e w' => e = .returned (.func (.func 70) #[] #[.pointer (some ⟨w.heap.size, 0, none⟩)]) ∧ w' = w.alloc (.cells #[.slice a len cap] 27) := by
  refine callsIn_of_wp Tryd.func57 rfl trivial ?_ rfl
  simp only [Tryd.ntmps57, List.size_toArray, List.length_cons, List.length_nil, Nat.reduceAdd, Nat.reduceSub, Array.replicate_succ, Array.replicate_zero, List.push_toArray, List.append_toArray, List.nil_append, List.cons_append]
  gi_wp2
  go_ret
  exact ⟨rfl, rfl⟩

set_option maxRecDepth 100000 in
set_option maxHeartbeats 4000000 in
theorem numsIn_in (n : Nat) (hn : 1 ≤ n) (l Bs n₀ len cap : Nat) (a : Option Addr) (bs : List Int) (hin : In 255 bs) (hl : bs.length = len) (h20 : 20 ≤ len) (hlc : len ≤ cap) (hs : cap ≤ 9223372036854775807) (J Jx : List PN → World → Prop)
    (hY : ∀ pre x W, J pre W → pre.length < 10 → YieldAt Fence.wide (n - 1) Tryd.prog l #[.int .i64 x.1.1, .int .u32 x.1.2] W fun e W' =>
      (e = .returned (.bool true) ∧ J (pre ++ [x]) W' ∧ Keep n₀ [Bs] W W') ∨ (e = .returned (.bool false) ∧ Jx (pre ++ [x]) W'))
    (W : World) (hB : Boxed W Bs 27 (.slice a len cap)) (hR : Row .u8 n₀ W a bs) (hW : Wid W) (h0 : J [] W) :
    CallsIn Fence.wide n Tryd.prog 70 #[.func (.yield l) #[] #[], .pointer (some ⟨Bs, 0, none⟩)] W fun e W' => (∃ v, e = .returned v) ∧
      ((∃ ys, ys = uptoA (pnAt bs hin) 10 ∧ J ys W') ∨ (∃ pre, pre.length ≤ 10 ∧ Jx pre W')) := by
  have HL := Lib.hid hl
  clear hl
  obtain ⟨b, off, rfl, hb, hcz⟩ := hR.2 (by rw [HL.out]; omega)
  clear hcz
  refine callsIn_of_wp Tryd.func70 rfl trivial ?_ rfl
  simp only [Tryd.ntmps70, List.size_toArray, List.length_cons, List.length_nil, Nat.reduceAdd, Nat.reduceSub, Array.replicate_succ, Array.replicate_zero, List.push_toArray, List.append_toArray, List.nil_append, List.cons_append]
  have g0 : W.cell? ⟨0, 0, none⟩ = some (.int .i64 1) := hW 0 (by decide)
  have g1 : W.cell? ⟨0, 1, none⟩ = some (.int .i64 1) := hW 1 (by decide)
  have g2 : W.cell? ⟨0, 2, none⟩ = some (.int .i64 2) := hW 2 (by decide)
  have g3 : W.cell? ⟨0, 3, none⟩ = some (.int .i64 2) := hW 3 (by decide)
  have g4 : W.cell? ⟨0, 4, none⟩ = some (.int .i64 2) := hW 4 (by decide)
  have g5 : W.cell? ⟨0, 5, none⟩ = some (.int .i64 1) := hW 5 (by decide)
  have g6 : W.cell? ⟨0, 6, none⟩ = some (.int .i64 1) := hW 6 (by decide)
  have g7 : W.cell? ⟨0, 7, none⟩ = some (.int .i64 2) := hW 7 (by decide)
  have g8 : W.cell? ⟨0, 8, none⟩ = some (.int .i64 4) := hW 8 (by decide)
  have g9 : W.cell? ⟨0, 9, none⟩ = some (.int .i64 4) := hW 9 (by decide)
  have HY := Lib.hid hY
  have HB := Lib.hid hB
  have HR := Lib.hid hR
  clear hY hB hR hW
  gi_wp2
  clear g0 g1 g2 g3 g4 g5 g6 g7 g8 g9
  gi_loopw [3, 7] (fun t i wr => ∃ k : Nat, k ≤ 10 ∧ i = .int .i64 k ∧ t = .int .i64 (offAt k) ∧ J (uptoA (pnAt bs hin) k) wr ∧ Keep n₀ [Bs] W wr)
    (fun _ i _ => 10 - (intOf i).toNat)
  case atStart => exact ⟨0, by omega, rfl, rfl, h0, Keep.refl _ _ _⟩
  case round =>
    obtain ⟨k, hk, rfl, rfl, hJs, hnx⟩ := hrel
    by_cases hlt10 : k < 10
    · have hcB := (hnx.boxed (by simp) HB.out).cell
      have hRr := HR.out.below hnx.1
      obtain ⟨ho1, ho2⟩ := offAt_succ k hlt10
      have hix := run_widths k hlt10 wr
      have hw4 := widthAt_is k
      have HN := Lib.hid (numberIn_any (some ⟨b, off + offAt k, none⟩) (widthAt k) (cap - offAt k) n₀ ((bs.drop (offAt k)).take (widthAt k)) wr ((hRr.drop _).take _) (by simp; rw [HL.out]; omega) (by omega))
      obtain ⟨fn, tmps, assign, body, hy, hRd⟩ := HY.out _ (pnAt bs hin k) wr hJs (by rw [uptoA_length]; omega)
      rw [pnAt_val hin hlt10] at hy
      have hy' : (Instr.yield l #[.int .i64 k, .int .u32 (numOf ((bs.drop (offAt k)).take (widthAt k)))]).run Tryd.prog wr = .ok (.round l fn tmps assign body) wr := hy
      clear hy
      have FIN : Hid (∀ (e : Ending) (W3 : World), ((e = .returned (.bool true) ∧ J (uptoA (pnAt bs hin) k ++ [pnAt bs hin k]) W3 ∧ Keep n₀ [Bs] wr W3) ∨ (e = .returned (.bool false) ∧ Jx (uptoA (pnAt bs hin) k ++ [pnAt bs hin k]) W3)) →
          (e = .returned (.bool true) ∧ Hid (J (uptoA (pnAt bs hin) (k + 1)) W3) ∧ Hid (Keep n₀ [Bs] W W3)) ∨ (e = .returned (.bool false) ∧ Hid (Jx (uptoA (pnAt bs hin) (k + 1)) W3))) := Lib.hid (by
        intro e W3 h
        rw [← uptoA_succ] at h
        exact h.imp (fun h => ⟨h.1, Lib.hid h.2.1, Lib.hid (keep_t hnx h.2.2)⟩) (fun h => ⟨h.1, Lib.hid h.2⟩))
      clear hRr
      have hnn : (0 : Int) ≤ (offAt k : Int) := by omega
      gi_wp2
      refine ⟨trivial, (callsIn_wide.2 HN.out).mono ?_⟩
      rintro e w1 ⟨rfl, rfl⟩
      gi_wp2
      refine hRd.mono ?_
      intro e W3 h
      rcases FIN.out e W3 h with ⟨rfl, hJ3, hk3⟩ | ⟨rfl, hJx3⟩
      · gi_wp2
        go_roundw
        case rel => exact ⟨k + 1, by omega, by go_num, by rw [ho1]; go_num, hJ3.out, hk3.out⟩
        case measure => simp [intOf]; omega
      · gi_wp2
        refine bodyPost_ret (results_none rfl _ _ _) rfl ?_
        exact ⟨⟨_, rfl⟩, .inr ⟨_, by rw [uptoA_length]; omega, hJx3.out⟩⟩
    · obtain rfl : k = 10 := by omega
      gi_wp2
      go_end0
      exact ⟨⟨_, rfl⟩, .inl ⟨_, rfl, hJs⟩⟩
end Go.Proofs.YthenbpnlmpeafaaDoor

/- What 'handfast/ip.Put' answers. -/
namespace Go.Proofs.YthenbpnlmpeafaaDoor
open Go.RowKit Go.Shelf
open SumM

attribute [local go_sem] Oper.semAt_some

set_option maxHeartbeats 1000000 in
theorem numbersOf_in (n : Nat) (sv nu fl ho pr sr ds : Int) (oa : Option Addr) (on oc : Nat) (pa : Option Addr) (pn pc : Nat) (w : World) :
    CallsIn Fence.wide n Tryd.prog 47 #[.agg #[.int .u8 sv, .int .u16 nu, .int .u16 fl, .int .u8 ho, .int .u8 pr, .int .u32 sr, .int .u32 ds, .slice oa on oc, .slice pa pn pc]] w fun e w' => e = .returned (.func (.func 67) #[] #[.pointer (some ⟨w.heap.size, 0, none⟩)]) ∧ w' = w.alloc (.cells #[.int .u8 sv, .int .u16 nu, .int .u16 fl, .int .u8 ho, .int .u8 pr, .int .u32 sr, .int .u32 ds, .slice oa on oc, .slice pa pn pc] 51) := by
  refine callsIn_of_wp Tryd.func47 rfl trivial ?_ rfl
  simp only [Tryd.ntmps47, List.size_toArray, List.length_cons, List.length_nil, Nat.reduceAdd, Nat.reduceSub, Array.replicate_succ, Array.replicate_zero, List.push_toArray, List.append_toArray, List.nil_append, List.cons_append]
  gi_wp2
  go_ret
  exact ⟨rfl, rfl⟩

/-- What a head's numbers are of. -/
structure Nums (sv nu fl ho pr sr ds : Int) : Prop where
  hsv : 0 ≤ sv ∧ sv ≤ 255
  hnu : 0 ≤ nu ∧ nu ≤ 65535
  hfl : 0 ≤ fl ∧ fl ≤ 65535
  hho : 0 ≤ ho ∧ ho ≤ 255
  hpr : 0 ≤ pr ∧ pr ≤ 255
  hsr : 0 ≤ sr ∧ sr ≤ 4294967295
  hds : 0 ≤ ds ∧ ds ≤ 4294967295

theorem nums_stops (sv nu fl ho pr sr ds : Int) (oa : Option Addr) (on oc : Nat) (pa : Option Addr) (pn pc : Nat) (n : Nat) (hn : 1 ≤ n) (Bs n₀ : Nat) (H : Nums sv nu fl ho pr sr ds) (hrt : rightB fl on pn = true) (w : World) (hn₀ : n₀ ≤ w.heap.size) (hg₀ : 0 < n₀)
    (hB : w.heap[Bs]? = some (.cells #[.int .u8 sv, .int .u16 nu, .int .u16 fl, .int .u8 ho, .int .u8 pr, .int .u32 sr, .int .u32 ds, .slice oa on oc, .slice pa pn pc] 51 (0, 0))) (hW : Wid w) :
    SeqStopsK Fence.wide n Tryd.prog 67 #[.pointer (some ⟨Bs, 0, none⟩)] (fun x : WN => #[.int .i64 x.1.1, .int .u32 x.1.2]) (KeepT n₀ [90, 51])
      (fun ys => ys.map (·.1) = (List.range 10).map (fun i => (widthAt i, numAt sv nu fl ho pr sr ds on pn i))) (fun pre => pre.length ≤ 10) 10 w := fun l J Jx W hWb hJ _ hY h0 =>
  nums_in sv nu fl ho pr sr ds oa on oc pa pn pc n hn l Bs n₀ H.hsv H.hnu H.hfl H.hho H.hpr H.hsr H.hds hrt J Jx W hJ (Nat.le_trans hn₀ hWb.size) hg₀ hY ((hWb.block Bs (Array.getElem?_eq_some_iff.1 hB).1).trans hB)
    (fun i hi => (hWb.cell (p := ⟨0, i, none⟩) (Nat.lt_of_lt_of_le hg₀ hn₀)).trans (hW i hi)) h0

/-- The bytes of widths and numbers. -/
def bytesOf (l : List WN) : List Int := l.flatMap fun x => be x.1.1 x.1.2
theorem bytesOf_snoc (l : List WN) (x : WN) : bytesOf (l ++ [x]) = bytesOf l ++ be x.1.1 x.1.2 := by simp [bytesOf]
theorem bytesOf_le (l : List WN) : (bytesOf l).length ≤ 4 * l.length := by
  induction l with
  | nil => simp [bytesOf]
  | cons x r ih =>
    have e : bytesOf (x :: r) = be x.1.1 x.1.2 ++ bytesOf r := by simp [bytesOf]
    have := x.2.2.2
    rw [e, List.length_append, be_length, List.length_cons]
    omega
/-- A head's bytes, without its check, without what it bears. -/
def headOf (sv nu fl ho pr sr ds : Int) (on pn : Nat) (os : List Int) : List Int :=
  ((List.range 10).flatMap fun i => be (widthAt i) (numAt sv nu fl ho pr sr ds on pn i)) ++ os
theorem bytesOf_all {sv nu fl ho pr sr ds : Int} {on pn : Nat} {ys : List WN} (h : ys.map (·.1) = (List.range 10).map (fun i => (widthAt i, numAt sv nu fl ho pr sr ds on pn i))) : bytesOf ys = (List.range 10).flatMap fun i => be (widthAt i) (numAt sv nu fl ho pr sr ds on pn i) := by
  have e : bytesOf ys = (ys.map (·.1)).flatMap fun x => be x.1 x.2 := by simp [bytesOf, List.flatMap_map]
  rw [e, h]
  simp [List.flatMap_map]

/-- The nine cells of a head in a box. -/
theorem head_cells {w : World} {b : Nat} (sv nu fl ho pr sr ds : Int) (oa : Option Addr) (on oc : Nat) (pa : Option Addr) (pn pc : Nat) (h : w.heap[b]? = some (.cells #[.int .u8 sv, .int .u16 nu, .int .u16 fl, .int .u8 ho, .int .u8 pr, .int .u32 sr, .int .u32 ds, .slice oa on oc, .slice pa pn pc] 51 (0, 0))) :
    w.cell? ⟨b, 0, none⟩ = some (.int .u8 sv) ∧ w.cell? ⟨b, 1, none⟩ = some (.int .u16 nu) ∧ w.cell? ⟨b, 2, none⟩ = some (.int .u16 fl) ∧ w.cell? ⟨b, 3, none⟩ = some (.int .u8 ho) ∧ w.cell? ⟨b, 4, none⟩ = some (.int .u8 pr) ∧
    w.cell? ⟨b, 5, none⟩ = some (.int .u32 sr) ∧ w.cell? ⟨b, 6, none⟩ = some (.int .u32 ds) ∧ w.cell? ⟨b, 7, none⟩ = some (.slice oa on oc) ∧ w.cell? ⟨b, 8, none⟩ = some (.slice pa pn pc) := by
  refine ⟨?_, ?_, ?_, ?_, ?_, ?_, ?_, ?_, ?_⟩
  all_goals (rw [cell_of_row _ _ _ _ _ _ h]; rfl)

/-- A head's bytes, with its check and what it bears. -/
def putOf (sv nu fl ho pr sr ds : Int) (on pn : Nat) (os ps : List Int) : List Int :=
  (((headOf sv nu fl ho pr sr ds on pn os).set 10 ((65535 - sumOf (headOf sv nu fl ho pr sr ds on pn os)) / 256)).set 11 ((65535 - sumOf (headOf sv nu fl ho pr sr ds on pn os)) % 256)) ++ ps
theorem putOf_def (sv nu fl ho pr sr ds : Int) (on pn : Nat) (os ps : List Int) : putOf sv nu fl ho pr sr ds on pn os ps =
  (((headOf sv nu fl ho pr sr ds on pn os).set 10 ((65535 - sumOf (headOf sv nu fl ho pr sr ds on pn os)) / 256)).set 11 ((65535 - sumOf (headOf sv nu fl ho pr sr ds on pn os)) % 256)) ++ ps := rfl
/-- Bytes in memory of the call's own, and true. -/
def PutRet (zs : List Int) (w : World) (e : Ending) (w' : World) : Prop :=
  ∃ A c, e = .returned (.tuple #[.slice A zs.length c, .bool true]) ∧ w'.ownsRow w.heap.size 5 1 (.slice A zs.length c) zs.length (zs.map (Value.int .u8)) ∧ Below w.heap.size w w'
theorem headOf_in {sv nu fl ho pr sr ds : Int} {on pn : Nat} {os : List Int} (h : In 255 os) : In 255 (headOf sv nu fl ho pr sr ds on pn os) := by
  intro x hx
  simp only [headOf, List.mem_append, List.mem_flatMap] at hx
  rcases hx with ⟨i, _, hx⟩ | hx
  · exact be_in _ _ x hx
  · exact h x hx
theorem headOf_wf {sv nu fl ho pr sr ds : Int} {on pn : Nat} {os : List Int} (h : ∀ n ∈ os, (Lit.int .u8 n).wf = true) : ∀ n ∈ headOf sv nu fl ho pr sr ds on pn os, (Lit.int .u8 n).wf = true := fun n hn =>
  wf_u8.2 (headOf_in (fun x hx => wf_u8.1 (h x hx)) n hn)

set_option maxRecDepth 100000 in
set_option maxHeartbeats 8000000 in
theorem ipPut_in (sv nu fl ho pr sr ds : Int) (oa : Option Addr) (on oc : Nat) (pa : Option Addr) (pn pc : Nat) (n : Nat) (hn : 4 ≤ n) (os ps : List Int) (H : Nums sv nu fl ho pr sr ds) (hrt : rightB fl on pn = true) (w : World) (hg : 0 < w.heap.size) (hW : Wid w)
    (hro : Row .u8 w.heap.size w oa os) (hol : os.length = on) (hon : oa = none → oc = 0) (hrp : Row .u8 w.heap.size w pa ps) (hpl : ps.length = pn) (hpn : pa = none → pc = 0) :
    CallsIn Fence.wide n Tryd.prog 31 #[.agg #[.int .u8 sv, .int .u16 nu, .int .u16 fl, .int .u8 ho, .int .u8 pr, .int .u32 sr, .int .u32 ds, .slice oa on oc, .slice pa pn pc]] w (PutRet (putOf sv nu fl ho pr sr ds on pn os ps) w) := by
  have hsz := rightB_le hrt
  have h1n : 1 ≤ n := by omega
  have HH := Lib.hid H
  have HR := Lib.hid hrt
  clear H hrt
  refine callsIn_of_wp_marks Tryd.func31 rfl trivial ?_ rfl
  simp only [Tryd.ntmps31, List.size_toArray, List.length_cons, List.length_nil, Nat.reduceAdd, Nat.reduceSub, Array.replicate_succ, Array.replicate_zero, List.push_toArray, List.append_toArray, List.nil_append, List.cons_append]
  obtain ⟨i0, hi, hz0, hz1, hz2⟩ := info_parts Tryd.infoU8
  gi_wp2
  rw [wpIn_wide]
  refine wp_scope_jumps 0 (fun _ _ => False) (fun _ _ => 0) rfl ?first (fun _ _ h => h.elim)
  rw [← wpIn_wide (n := n)]
  have bH := heap_alloc_new w (.cells #[.int .u8 sv, .int .u16 nu, .int .u16 fl, .int .u8 ho, .int .u8 pr, .int .u32 sr, .int .u32 ds, .slice oa on oc, .slice pa pn pc] 51)
  have bB := heap_alloc_new (w.alloc (.cells #[.int .u8 sv, .int .u16 nu, .int .u16 fl, .int .u8 ho, .int .u8 pr, .int .u32 sr, .int .u32 ds, .slice oa on oc, .slice pa pn pc] 51)) (.cells #[.slice none 0 0] 27)
  rw [World.size_alloc] at bB
  have bH2 := (Below.heap_alloc _ (.cells #[.slice none 0 0] 27) w.heap.size (by simp)).trans bH
  have L0 : Below w.heap.size w ((w.alloc (.cells #[.int .u8 sv, .int .u16 nu, .int .u16 fl, .int .u8 ho, .int .u8 pr, .int .u32 sr, .int .u32 ds, .slice oa on oc, .slice pa pn pc] 51)).alloc (.cells #[.slice none 0 0] 27)) := ((Below.refl _ w).alloc (Nat.le_refl _) _).alloc (by simp) _
  have hs0 : ((w.alloc (.cells #[.int .u8 sv, .int .u16 nu, .int .u16 fl, .int .u8 ho, .int .u8 pr, .int .u32 sr, .int .u32 ds, .slice oa on oc, .slice pa pn pc] 51)).alloc (.cells #[.slice none 0 0] 27)).heap.size = w.heap.size + 2 := by simp
  gi_wp2_with fail
  generalize (w.alloc (.cells #[.int .u8 sv, .int .u16 nu, .int .u16 fl, .int .u8 ho, .int .u8 pr, .int .u32 sr, .int .u32 ds, .slice oa on oc, .slice pa pn pc] 51)).alloc (.cells #[.slice none 0 0] 27) = W0 at *
  refine ⟨trivial, (callsIn_wide.2 (ipRight_any sv nu fl ho pr sr ds oa on oc pa pn pc W0 (by omega) (by omega))).mono ?_⟩
  rintro e w1 ⟨rfl, m1⟩
  rw [HR.out]
  have c1 : w1.heap[w.heap.size]? = some (.cells #[.int .u8 sv, .int .u16 nu, .int .u16 fl, .int .u8 ho, .int .u8 pr, .int .u32 sr, .int .u32 ds, .slice oa on oc, .slice pa pn pc] 51 (0, 0)) := (m1.block _ (by omega)).trans bH2
  have d1 : Boxed w1 (w.heap.size + 1) 27 (.slice none 0 0) := (m1.block _ (by omega)).trans bB
  have L1 := L0.trans (m1.mono L0.size)
  have s1 := m1.size
  clear bH bB bH2
  obtain ⟨q0, q1, q2, q3, q4, q5, q6, q7, q8⟩ := head_cells _ _ _ _ _ _ _ _ _ _ _ _ _ c1
  gi_wp2_with fail
  refine ⟨trivial, (callsIn_wide.2 (ipSize_yes sv nu fl ho pr sr ds oa on oc pa pn pc w1 HR.out)).mono ?_⟩
  rintro e w2 ⟨rfl, m2⟩
  have c2 := (m2.block _ (by omega)).trans c1
  have d2 : Boxed w2 (w.heap.size + 1) 27 (.slice none 0 0) := (m2.block _ (by omega)).trans d1
  have L2 := L1.trans (m2.mono L1.size)
  have s2 := m2.size
  clear q0 q1 q2 q3 q4 q5 q6 q7 q8 c1 d1 L0 L1 m1 m2
  have hcB2 := d2.cell
  gi_wp2_with (gi_at_make; refine wpListIn_make_own _ rfl _ _ _ rfl w2.heap.size 5 i0 (.int .u8 0) 1 Tryd.underlying27 hi hz0 hz1 .i64 .i64 (20 + (on : Int) + pn) (20 + on + pn) rfl rfl (by omega) (by rw [hz2]; omega) (by unfold maxLen; omega) (Nat.le_refl _) ?_; intro w3 hown3 hgrow3; have c3 := (hgrow3.block _ (by omega) (by simp)).trans c2; have d3 := d2.kept hgrow3 (by simp); have s3 := hgrow3.size; have L3 := L2.grown hgrow3 (by omega) (fun k e => by cases e); have hcB3 := d3.cell; have hfB3 := d3.frozen; obtain ⟨q0, q1, q2, q3, q4, q5, q6, q7, q8⟩ := head_cells _ _ _ _ _ _ _ _ _ _ _ _ _ c3)
  refine ⟨trivial, (numbersOf_in (n - 1) sv nu fl ho pr sr ds oa on oc pa pn pc _).mono ?_⟩
  rintro e w5 ⟨rfl, rfl⟩
  have hlb : w.heap.size + 1 < w2.heap.size := by omega
  have O4 := own_setBelow hown3 ⟨w.heap.size + 1, 0, none⟩ hlb (.slice (some ⟨w2.heap.size, 0, none⟩) 0 (20 + on + pn))
  have c4 := (Below.heap_setCell w3 ⟨w.heap.size + 1, 0, none⟩ (.slice (some ⟨w2.heap.size, 0, none⟩) 0 (20 + on + pn)) w.heap.size (by simp)).trans c3
  have B4 := d3.set (.slice (some ⟨w2.heap.size, 0, none⟩) 0 (20 + on + pn))
  have L4 := L3.setCell (p := ⟨w.heap.size + 1, 0, none⟩) (by simp) (.slice (some ⟨w2.heap.size, 0, none⟩) 0 (20 + on + pn))
  have s4 : w2.heap.size ≤ (w3.setCell ⟨w.heap.size + 1, 0, none⟩ (.slice (some ⟨w2.heap.size, 0, none⟩) 0 (20 + on + pn))).heap.size := by simpa using s3
  have e4 : w3.heap.size = (w3.setCell ⟨w.heap.size + 1, 0, none⟩ (.slice (some ⟨w2.heap.size, 0, none⟩) 0 (20 + on + pn))).heap.size := by simp
  clear q0 q1 q2 q3 q4 q5 q6 q7 q8 hcB2 hcB3 hfB3 hown3 hgrow3 c3 d3 L3 c2 d2 L2
  generalize w3.setCell ⟨w.heap.size + 1, 0, none⟩ (.slice (some ⟨w2.heap.size, 0, none⟩) 0 (20 + on + pn)) = W4 at *
  generalize hS4 : (.slice (some ⟨w2.heap.size, 0, none⟩) 0 (20 + on + pn) : Value) = S4 at *
  generalize hHD : (.agg #[.int .u8 sv, .int .u16 nu, .int .u16 fl, .int .u8 ho, .int .u8 pr, .int .u32 sr, .int .u32 ds, .slice oa on oc, .slice pa pn pc] : Value) = HD
  have bC := heap_alloc_new W4 (.cells #[.int .u8 sv, .int .u16 nu, .int .u16 fl, .int .u8 ho, .int .u8 pr, .int .u32 sr, .int .u32 ds, .slice oa on oc, .slice pa pn pc] 51)
  have bH5 := (Below.heap_alloc W4 (.cells #[.int .u8 sv, .int .u16 nu, .int .u16 fl, .int .u8 ho, .int .u8 pr, .int .u32 sr, .int .u32 ds, .slice oa on oc, .slice pa pn pc] 51) w.heap.size (by omega)).trans c4
  have B5 := B4.alloc (.cells #[.int .u8 sv, .int .u16 nu, .int .u16 fl, .int .u8 ho, .int .u8 pr, .int .u32 sr, .int .u32 ds, .slice oa on oc, .slice pa pn pc] 51)
  have O5 := O4.alloc (.cells #[.int .u8 sv, .int .u16 nu, .int .u16 fl, .int .u8 ho, .int .u8 pr, .int .u32 sr, .int .u32 ds, .slice oa on oc, .slice pa pn pc] 51)
  have L5 := L4.alloc (by omega) (.cells #[.int .u8 sv, .int .u16 nu, .int .u16 fl, .int .u8 ho, .int .u8 pr, .int .u32 sr, .int .u32 ds, .slice oa on oc, .slice pa pn pc] 51)
  have W5 : Wid (W4.alloc (.cells #[.int .u8 sv, .int .u16 nu, .int .u16 fl, .int .u8 ho, .int .u8 pr, .int .u32 sr, .int .u32 ds, .slice oa on oc, .slice pa pn pc] 51)) := fun i hi => (L5.cell (p := ⟨0, i, none⟩) hg).trans (hW i hi)
  have hz5 : (W4.alloc (.cells #[.int .u8 sv, .int .u16 nu, .int .u16 fl, .int .u8 ho, .int .u8 pr, .int .u32 sr, .int .u32 ds, .slice oa on oc, .slice pa pn pc] 51)).heap.size = W4.heap.size + 1 := by simp
  clear B4 O4 L4 c4
  gi_wp2
  generalize hW5 : W4.alloc (.cells #[.int .u8 sv, .int .u16 nu, .int .u16 fl, .int .u8 ho, .int .u8 pr, .int .u32 sr, .int .u32 ds, .slice oa on oc, .slice pa pn pc] 51) = V at *
  refine wpIn_rangeFunc_ownG rfl h1n (gf := 67) (lb := #[.pointer (some ⟨W4.heap.size, 0, none⟩)]) rfl trivial (enters_of Tryd.func67 (by kernel_rfl) rfl)
    (nums_stops sv nu fl ho pr sr ds oa on oc pa pn pc (n - 1) (by omega) W4.heap.size w.heap.size HH.out HR.out V (by omega) hg bC W5) keepT_t (keepT_b (by omega)) (Below.refl _ _) (fun _ => rfl)
    (fun pre W => ∃ v, Boxed W (w.heap.size + 1) 27 v ∧ W.ownsRow w2.heap.size 5 1 v (bytesOf pre).length ((bytesOf pre).map (Value.int .u8)) ∧ Below w.heap.size w W ∧ W.heap[w.heap.size]? = some (.cells #[.int .u8 sv, .int .u16 nu, .int .u16 fl, .int .u8 ho, .int .u8 pr, .int .u32 sr, .int .u32 ds, .slice oa on oc, .slice pa pn pc] 51 (0, 0)) ∧ V.heap.size ≤ W.heap.size)
    (fun _ _ _ => False)
    ?own
    (fun _ _ _ _ _ hs _ _ => hs)
    ⟨S4, B5, O5, L5, bH5, Nat.le_refl _⟩
    (fun x => { tmps := #[HD, .pointer (some ⟨w.heap.size, 0, none⟩), .slice none 0 0, .bool false, .pointer (some ⟨w.heap.size + 1, 0, none⟩), .int .i64 x.1.1, .int .u32 x.1.2, HD, .bool true, .bool false, HD, .int .i64 (20 + (on : Int) + pn), S4, HD, .func (.func 67) #[] #[.pointer (some ⟨W4.heap.size, 0, none⟩)], .int .i64 x.1.1, .int .u32 x.1.2, undef, undef, undef, undef, undef, undef, undef, undef, undef, undef, undef, undef, undef, undef, undef, undef], defers := [] }) ?assign ?body ?done ?stop
  case own =>
    rintro pre W W' row ⟨v, hX, hO, hb, hh, hv⟩ hgr hr
    have hr2 := fun r e => (hr r e).2
    exact ⟨v, hX.kept hgr (fun e => by have := (hr _ e.symm).1; omega), own_abides hO hgr hr2, hb.grown hgr hb.size (fun k e => by have := (hr k e).1; omega), (hgr.block _ (by omega) (fun e => by have := (hr _ e.symm).1; omega)).trans hh, Nat.le_trans hv hgr.size⟩
  case assign =>
    intro l x W K hK
    gi_wp2
    exact hK
  case body =>
    rintro l pre x W ⟨v, hX, hO, hb, hh, hv⟩ hlt
    have hx := x.2
    have hlen := bytesOf_le pre
    have hcX := hX.cell
    have hfX := hX.frozen
    have HA := Lib.hid (CallsIn.inRound l ((callsIn_wide (n := n - 1 - 1 - 1)).2 (appendNumber_any w2.heap.size [90, 51] (by decide) v (bytesOf pre).length x.1.1 (bytesOf pre) hx.2.2 (by omega) x.1.2 hx.1 hx.2.1 W hO (by omega))))
    gi_wp2_with fail
    refine ⟨trivial, by omega, HA.out.mono ?_⟩
    rintro e W2 ⟨v', rfl, ho', hk'⟩
    obtain ⟨A', C', rfl⟩ := own_slice ho'
    have hX' : Boxed W2 (w.heap.size + 1) 27 v := (hk'.1.1.block _ hlb).trans hX
    have hcb := hX'.cell
    have hfb := hX'.frozen
    have hs' := hk'.1.1.size
    have hsn : bytesOf (pre ++ [x]) = bytesOf pre ++ be x.1.1 x.1.2 := bytesOf_snoc pre x
    have hln : (bytesOf (pre ++ [x])).length = (bytesOf pre).length + x.1.1 := by rw [hsn, List.length_append, be_length]
    gi_wp2
    refine ⟨(hk'.2.trans (KeepsOthers.setCell _ _ _)).from _, keepT_t (keepT_mono hk'.1 (by omega)) (keepT_set hX' (by omega) (by decide) _), _, hX'.set _, ?_, ?_, ?_, ?_⟩
    · rw [hln, hsn]
      exact own_setBelow ho' _ hlb _
    · exact (hb.trans (hk'.1.1.mono (by omega))).setCell (p := ⟨w.heap.size + 1, 0, none⟩) (by simp) _
    · exact (Below.heap_setCell W2 ⟨w.heap.size + 1, 0, none⟩ _ w.heap.size (by simp)).trans ((hk'.1.1.block _ (by omega)).trans hh)
    · rw [World.size_setCell]; omega
  case done =>
    rintro D ys W hD hys ⟨v, hX, hO, hb, hh, hv⟩ hK
    rw [bytesOf_all hys] at hO
    have hn10 : ((List.range 10).flatMap fun i => be (widthAt i) (numAt sv nu fl ho pr sr ds on pn i)).length = 20 := by simp [List.range_succ, be_length, widthAt]
    rw [hn10] at hO
    obtain ⟨q0, q1, q2, q3, q4, q5, q6, q7, q8⟩ := head_cells _ _ _ _ _ _ _ _ _ _ _ _ _ hh
    have hcX := hX.cell
    have hfX := hX.frozen
    simp only [Exit.inBlock, Exit.then]
    apply_assumption
    rw [wpIn_wide]
    go_wp2_with (at_builtin; refine wpList_append_row _ rfl _ _ 27 rfl w2.heap.size 5 i0 (.int .u8 0) 1 Tryd.underlying27 hi hz0 hz1 hz2 rfl v 20 _ rfl hO .u8 w.heap.size oa on oc os rfl hol (hro.below hb) hon (by unfold maxLen; omega) (by omega) (by omega) ?_; intro v6 w6 hO6 hg6; rw [← List.map_append] at hO6; obtain ⟨g6, cap6, rfl, hb6⟩ := own_form hO6 (by omega); have X6 := hX.kept hg6 (own_ne hO hlb); have hcX6 := X6.cell; have hfX6 := X6.frozen)
    have O7 := own_setBelow hO6 ⟨w.heap.size + 1, 0, none⟩ hlb (.slice (some ⟨g6, 0, none⟩) (20 + on) cap6)
    have X7 := X6.set (.slice (some ⟨g6, 0, none⟩) (20 + on) cap6)
    have L6 := hb.grown hg6 (by omega) (fun k e => by have := (hO.lt k e).1; omega)
    have L7 := L6.setCell (p := ⟨w.heap.size + 1, 0, none⟩) (by simp) (.slice (some ⟨g6, 0, none⟩) (20 + on) cap6)
    have H7 := (Below.heap_setCell w6 ⟨w.heap.size + 1, 0, none⟩ (.slice (some ⟨g6, 0, none⟩) (20 + on) cap6) w.heap.size (by simp)).trans ((hg6.block _ (by omega) (own_ne hO (by omega))).trans hh)
    have K7 := ((own_others hO hg6).trans (KeepsOthers.setCell w6 ⟨w.heap.size + 1, 0, none⟩ (.slice (some ⟨g6, 0, none⟩) (20 + on) cap6))).same D _ hK rfl
    clear q0 q1 q2 q3 q4 q5 q6 q7 q8 hcX hfX hcX6 hfX6 X6 hO6 hg6 L6 hK hh hb hO hX hv
    generalize w6.setCell ⟨w.heap.size + 1, 0, none⟩ (.slice (some ⟨g6, 0, none⟩) (20 + on) cap6) = W7 at *
    have hb8 : 20 + on ≤ 8000000 := by omega
    have R7 : Row .u8 W7.heap.size W7 (some ⟨g6, 0, none⟩) (headOf sv nu fl ho pr sr ds on pn os) := Row.of_own O7 (headOf_wf hro.1)
    have hhl : (headOf sv nu fl ho pr sr ds on pn os).length = 20 + on := by unfold headOf; rw [List.length_append, hn10, hol]
    have hck := cr_in (tot (words (headOf sv nu fl ho pr sr ds on pn os)))
    have hcX := X7.cell
    have hbX : w.heap.size + 1 < W7.heap.size := X7.lt
    have O7' : W7.ownsRow w2.heap.size 5 1 (.slice (some ⟨g6, 0, none⟩) (20 + on) cap6) (20 + on) ((headOf sv nu fl ho pr sr ds on pn os).map (Value.int .u8)) := O7
    clear O7
    have HP := Lib.hid (putOf_def sv nu fl ho pr sr ds on pn os ps)
    generalize headOf sv nu fl ho pr sr ds on pn os = hd at *
    go_region_held3 (fun w' => w'.cell? ⟨w.heap.size + 1, 0, none⟩ = some (.slice (some ⟨g6, 0, none⟩) (20 + on) cap6)) (first | with_reducible exact hcX | with_reducible exact hcX8 | with_reducible exact hcX9 | exact hcX)
      (first
        | (go_at_call 49; refine (layCheck_any g6 (20 + on) cap6 w2.heap.size hd _ (65535 - sumOf hd) (by unfold sumOf; omega) (by omega) (by omega) O8).mono ?_; rintro e w9 ⟨⟨v9, rfl⟩, rfl⟩)
        | (go_at_call 50; refine (check_any _ _ _ hd hhl hb8 W7.drew R7).mono ?_; rintro e w8 ⟨rfl, m8'⟩; have m8 : Below W7.heap.size W7 w8 := below_drew m8'; have hcX8 := (m8.cell (p := ⟨w.heap.size + 1, 0, none⟩) hbX).trans hcX; have O8 := own_below O7' m8; have hcX9 : (((w8.setCell ⟨g6, 10, none⟩ (.int .u8 ((65535 - sumOf hd) / 256))).setCell ⟨g6, 11, none⟩ (.int .u8 ((65535 - sumOf hd) % 256))).cell? ⟨w.heap.size + 1, 0, none⟩ = some (.slice (some ⟨g6, 0, none⟩) (20 + on) cap6)) := (by rw [World.cell?_setCell_other _ _ _ _ (by simp), World.cell?_setCell_other _ _ _ _ (by simp)]; exact hcX8)))
    have O9 := own_store (own_store O8 10 ((65535 - sumOf hd) / 256)) 11 ((65535 - sumOf hd) % 256)
    have L9 := ((L7.trans (m8.mono L7.size)).setCell (p := ⟨g6, 10, none⟩) (by show w.heap.size ≤ g6; omega) (.int .u8 ((65535 - sumOf hd) / 256))).setCell (p := ⟨g6, 11, none⟩) (by show w.heap.size ≤ g6; omega) (.int .u8 ((65535 - sumOf hd) % 256))
    have K9 := ((KeepsOthers.setCell w8 ⟨g6, 10, none⟩ (.int .u8 ((65535 - sumOf hd) / 256))).trans (KeepsOthers.setCell _ ⟨g6, 11, none⟩ (.int .u8 ((65535 - sumOf hd) % 256)))).same D _ ((m8.block D (Array.getElem?_eq_some_iff.1 K7).1).trans K7) rfl
    have H9 := (Below.heap_setCell _ ⟨g6, 11, none⟩ (.int .u8 ((65535 - sumOf hd) % 256)) w.heap.size (by show w.heap.size ≠ g6; omega)).trans ((Below.heap_setCell w8 ⟨g6, 10, none⟩ (.int .u8 ((65535 - sumOf hd) / 256)) w.heap.size (by show w.heap.size ≠ g6; omega)).trans ((m8.block _ (by omega)).trans H7))
    have s9 : W7.heap.size ≤ ((w8.setCell ⟨g6, 10, none⟩ (.int .u8 ((65535 - sumOf hd) / 256))).setCell ⟨g6, 11, none⟩ (.int .u8 ((65535 - sumOf hd) % 256))).heap.size := by simpa using m8.size
    have s7 : w2.heap.size ≤ W7.heap.size := by have := (O7'.lt g6 rfl).2; omega
    clear O8 m8 m8' hcX hcX8 R7 O7' L7 H7 K7 X7
    generalize (w8.setCell ⟨g6, 10, none⟩ (.int .u8 ((65535 - sumOf hd) / 256))).setCell ⟨g6, 11, none⟩ (.int .u8 ((65535 - sumOf hd) % 256)) = W9 at *
    obtain ⟨q0, q1, q2, q3, q4, q5, q6, q7, q8⟩ := head_cells _ _ _ _ _ _ _ _ _ _ _ _ _ H9
    go_wp2_with (at_builtin; refine wpList_append_row _ rfl _ _ 27 rfl w2.heap.size 5 i0 (.int .u8 0) 1 Tryd.underlying27 hi hz0 hz1 hz2 rfl _ (20 + on) _ rfl O9 .u8 w.heap.size pa pn pc ps rfl hpl (hrp.below L9) hpn (by unfold maxLen; omega) (by omega) (by omega) ?_; intro v10 w10 hO10 hg10; rw [← List.map_append] at hO10)
    simp only [Exit.jump]
    have K10 := (own_others O9 hg10).same D _ K9 rfl
    refine ⟨by simp, .inl ⟨_, _, rfl, run_takeDeferred K10, ?_⟩⟩
    refine ⟨_, results_tmp2 rfl _ _ _, ?_⟩
    have L10 := L9.grown hg10 (by omega) (fun k e => by have := (O9.lt k e).1; omega)
    have hO11 := own_base (own_abides hO10 (grownBy_putObj' w10 D (.deferred none)) (fun r e => by cases e; exact ⟨_, K10, rfl⟩)) (show w.heap.size ≤ w2.heap.size by omega)
    have hlen : (putOf sv nu fl ho pr sr ds on pn os ps).length = 20 + on + pn := by rw [HP.out]; simp [hhl, hpl]
    obtain ⟨A, C, rfl⟩ := own_slice hO10
    unfold PutRet
    rw [hlen, HP.out]
    exact ⟨A, C, rfl, hO11, L10.trans (belowK_b (w := w) (Nat.le_refl _) w10 D _ _ (by omega) K10 rfl rfl)⟩
  case stop =>
    rintro D c pre W _ _ h _
    exact h.elim

theorem ipPut_yes (sv nu fl ho pr sr ds : Int) (oa : Option Addr) (on oc : Nat) (pa : Option Addr) (pn pc : Nat) (os ps : List Int) (H : Nums sv nu fl ho pr sr ds) (hrt : rightB fl on pn = true) (w : World) (hg : 0 < w.heap.size) (hW : Wid w)
    (hro : Row .u8 w.heap.size w oa os) (hol : os.length = on) (hon : oa = none → oc = 0) (hrp : Row .u8 w.heap.size w pa ps) (hpl : ps.length = pn) (hpn : pa = none → pc = 0) :
    Calls Tryd.prog 31 #[.agg #[.int .u8 sv, .int .u16 nu, .int .u16 fl, .int .u8 ho, .int .u8 pr, .int .u32 sr, .int .u32 ds, .slice oa on oc, .slice pa pn pc]] w (PutRet (putOf sv nu fl ho pr sr ds on pn os ps) w) :=
  callsIn_wide.1 (ipPut_in sv nu fl ho pr sr ds oa on oc pa pn pc 4 (by omega) os ps H hrt w hg hW hro hol hon hrp hpl hpn)

set_option maxRecDepth 100000 in
set_option maxHeartbeats 2000000 in
theorem ipPut_no (sv nu fl ho pr sr ds : Int) (oa : Option Addr) (on oc : Nat) (pa : Option Addr) (pn pc : Nat) (hrt : rightB fl on pn = false) (ho' : on ≤ 281474976710656) (hp' : pn ≤ 281474976710656) (w : World) :
    Calls Tryd.prog 31 #[.agg #[.int .u8 sv, .int .u16 nu, .int .u16 fl, .int .u8 ho, .int .u8 pr, .int .u32 sr, .int .u32 ds, .slice oa on oc, .slice pa pn pc]] w fun e w' => e = .returned (.tuple #[.slice none 0 0, .bool false]) ∧ Below w.heap.size w w' := by
  have HR := Lib.hid hrt
  clear hrt
  go_enter Tryd.func31, Tryd.ntmps31
  go_wp2
  have L0 : Below w.heap.size w ((w.alloc (.cells #[.int .u8 sv, .int .u16 nu, .int .u16 fl, .int .u8 ho, .int .u8 pr, .int .u32 sr, .int .u32 ds, .slice oa on oc, .slice pa pn pc] 51)).alloc (.cells #[.slice none 0 0] 27)) := ((Below.refl _ w).alloc (Nat.le_refl _) _).alloc (by simp) _
  refine wp_scope_jumps 0 (fun a' w' => Below w.heap.size w w' ∧ ∃ (u0 u1 u4 u5 u6 u7 u8 u9 u10 u11 u12 u13 u14 u15 u16 u17 u18 u19 u20 u21 u22 u23 u24 u25 u26 u27 u28 u29 u30 u31 u32 : Value), a' = { tmps := #[u0, u1, .slice none 0 0, .bool false, u4, u5, u6, u7, u8, u9, u10, u11, u12, u13, u14, u15, u16, u17, u18, u19, u20, u21, u22, u23, u24, u25, u26, u27, u28, u29, u30, u31, u32], defers := [] }) (fun _ _ => 0) rfl ?first ?pass
  case first =>
    go_wp2_with (go_at_call 45; refine (ipRight_any sv nu fl ho pr sr ds oa on oc pa pn pc _ ho' hp').mono ?_; rintro e w1 ⟨rfl, m1⟩; have LL := L0.trans (m1.mono L0.size); clear m1; rw [HR.out])
    go_step3
    exact ⟨rfl, LL, _, _, _, _, _, _, _, _, _, _, _, _, _, _, _, _, _, _, _, _, _, _, _, _, _, _, _, _, _, _, _, rfl⟩
  case pass =>
    rintro a' w' ⟨LL, u0, u1, u4, u5, u6, u7, u8, u9, u10, u11, u12, u13, u14, u15, u16, u17, u18, u19, u20, u21, u22, u23, u24, u25, u26, u27, u28, u29, u30, u31, u32, rfl⟩
    go_wp2
    simp only [Exit.jump]
    go_ret2
    exact ⟨rfl, LL⟩
end Go.Proofs.YthenbpnlmpeafaaDoor

/- What 'handfast/ip.checkOf', 'headOf' and 'Own' answer. -/
namespace Go.Proofs.YthenbpnlmpeafaaDoor
open Go.RowKit Go.Shelf
open SumM

/-- The check that a head ought to have. -/
def chkOf (zs : List Int) : Int := 65535 - sumOf ((zs.set 10 0).set 11 0)

set_option maxRecDepth 100000 in
theorem checkOf_any (a : Option Addr) (n c : Nat) (zs : List Int) (hl : zs.length = n) (h12 : 12 ≤ n) (hn : n ≤ 1000000) (w : World) (hR : Row .u8 w.heap.size w a zs) (hnil : a = none → c = 0) :
    Calls Tryd.prog 58 #[.slice a n c] w fun e w' => e = .returned (.int .u16 (chkOf zs)) ∧ Below w.heap.size w w' := by
  have HL := Lib.hid hl
  clear hl
  go_enter Tryd.func58, Tryd.ntmps58
  go_wp2_with fail
  refine (clone_any a n c zs HL.out w hR hnil (by omega)).mono ?_
  rintro e w1 ⟨A, C, rfl, O1, m1⟩
  rw [HL.out] at O1 ⊢
  obtain ⟨g, cap, hv, hg⟩ := own_form O1 (by omega)
  injection hv with hv1 hv2 hv3
  subst hv1 hv3
  go_wp2_with fail
  refine (layCheck_any g n C w.heap.size zs w1 0 (by omega) h12 (by omega) O1).mono ?_
  rintro e w2 ⟨⟨v, rfl⟩, hw2⟩
  have O2 : w2.ownsRow w.heap.size 5 1 (.slice (some ⟨g, 0, none⟩) n C) n (((zs.set 10 0).set 11 0).map (Value.int .u8)) := by rw [hw2]; exact own_store (own_store O1 10 0) 11 0
  have m2 : Below w.heap.size w w2 := by rw [hw2]; exact (m1.setCell (p := ⟨g, 10, none⟩) hg _).setCell (p := ⟨g, 11, none⟩) hg _
  clear hw2
  have hin : In 255 ((zs.set 10 0).set 11 0) := in_set (in_set (row_in hR) 10 0 (by omega)) 11 0 (by omega)
  have hlen : ((zs.set 10 0).set 11 0).length = n := by simp [HL.out]
  go_wp2_with fail
  refine (check_any _ n C ((zs.set 10 0).set 11 0) hlen (by omega) w2 (Row.of_own O2 (fun x hx => wf_u8.2 (hin x hx)))).mono ?_
  rintro e w3 ⟨rfl, m3⟩
  go_wp2
  go_ret
  exact ⟨rfl, m2.trans (m3.mono m2.size)⟩

/-- The nine cells of a box of a head. -/
theorem nine_cells {w : World} {b : Nat} {v0 v1 v2 v3 v4 v5 v6 v7 v8 : Value} {t : TypeId} (h : w.heap[b]? = some (.cells #[v0, v1, v2, v3, v4, v5, v6, v7, v8] t (0, 0))) :
    (w.cell? ⟨b, 0, none⟩ = some v0 ∧ w.cell? ⟨b, 1, none⟩ = some v1 ∧ w.cell? ⟨b, 2, none⟩ = some v2 ∧ w.cell? ⟨b, 3, none⟩ = some v3 ∧ w.cell? ⟨b, 4, none⟩ = some v4 ∧ w.cell? ⟨b, 5, none⟩ = some v5 ∧ w.cell? ⟨b, 6, none⟩ = some v6 ∧ w.cell? ⟨b, 7, none⟩ = some v7 ∧ w.cell? ⟨b, 8, none⟩ = some v8) ∧ ∀ j, w.frozen? ⟨b, j, none⟩ = false := by
  refine ⟨⟨?_, ?_, ?_, ?_, ?_, ?_, ?_, ?_, ?_⟩, fun j => by simp [World.frozen?, h]⟩
  all_goals (rw [cell_of_row _ _ _ _ _ _ h]; rfl)
theorem cell_s9 {W : World} {b b' j : Nat} {v v0 v1 v2 v3 v4 v5 v6 v7 v8 : Value} (hne : b ≠ b') (h : W.cell? ⟨b, j, none⟩ = some v) :
    (((((((((W.setCell ⟨b', 0, none⟩ v0).setCell ⟨b', 1, none⟩ v1).setCell ⟨b', 2, none⟩ v2).setCell ⟨b', 3, none⟩ v3).setCell ⟨b', 4, none⟩ v4).setCell ⟨b', 5, none⟩ v5).setCell ⟨b', 6, none⟩ v6).setCell ⟨b', 7, none⟩ v7).setCell ⟨b', 8, none⟩ v8).cell? ⟨b, j, none⟩ = some v := cell_sc (vs := [v0, v1, v2, v3, v4, v5, v6, v7, v8]) hne h

/-- A head in memory of its own: its two rows lie apart. -/
def HeadRet (sv nu fl ho pr sr ds : Int) (os ps : List Int) (w : World) (v : Value) (w' : World) : Prop :=
  ∃ oa oc pa pc, v = .agg #[.int .u8 sv, .int .u16 nu, .int .u16 fl, .int .u8 ho, .int .u8 pr, .int .u32 sr, .int .u32 ds, .slice oa os.length oc, .slice pa ps.length pc] ∧
    w'.ownsRow w.heap.size 5 1 (.slice oa os.length oc) os.length (os.map (Value.int .u8)) ∧ w'.ownsRow w.heap.size 5 1 (.slice pa ps.length pc) ps.length (ps.map (Value.int .u8)) ∧ Below w.heap.size w w'

theorem Tryd.infoHead : (Tryd.prog.info? 51).map (·.size) = some 9 := by kernel_rfl


set_option maxRecDepth 100000 in
set_option maxHeartbeats 8000000 in
theorem headOf_any (m0 m1 m2 m3 m4 m5 m6 m7 m8 m9 : Int) (oa : Option Addr) (on oc : Nat) (pa : Option Addr) (pn pc : Nat) (os ps : List Int) (w : World) (hro : Row .u8 w.heap.size w oa os) (hol : os.length = on) (hon : oa = none → oc = 0) (hrp : Row .u8 w.heap.size w pa ps) (hpl : ps.length = pn) (hpn : pa = none → pc = 0) (ho' : on ≤ 1048576) (hp' : pn ≤ 1048576) :
    Calls Tryd.prog 59 #[.agg #[.int .u32 m0, .int .u32 m1, .int .u32 m2, .int .u32 m3, .int .u32 m4, .int .u32 m5, .int .u32 m6, .int .u32 m7, .int .u32 m8, .int .u32 m9], .slice oa on oc, .slice pa pn pc] w fun e w' => ∃ v, e = .returned v ∧ HeadRet (m1 % 256) (m3 % 65536) (m4 % 65536) (m5 % 256) (m6 % 256) m8 m9 os ps w v w' := by
  subst hol hpl
  have L0 : Below w.heap.size w ((w.alloc (.cells #[.int .u32 m0, .int .u32 m1, .int .u32 m2, .int .u32 m3, .int .u32 m4, .int .u32 m5, .int .u32 m6, .int .u32 m7, .int .u32 m8, .int .u32 m9] 90)).alloc (.cells #[.int .u8 0, .int .u16 0, .int .u16 0, .int .u8 0, .int .u8 0, .int .u32 0, .int .u32 0, .slice none 0 0, .slice none 0 0] 51)) := ((Below.refl _ w).alloc (Nat.le_refl _) _).alloc (by simp) _
  have bH := heap_alloc_new w (.cells #[.int .u32 m0, .int .u32 m1, .int .u32 m2, .int .u32 m3, .int .u32 m4, .int .u32 m5, .int .u32 m6, .int .u32 m7, .int .u32 m8, .int .u32 m9] 90)
  have hZ0 := heap_alloc_new (w.alloc (.cells #[.int .u32 m0, .int .u32 m1, .int .u32 m2, .int .u32 m3, .int .u32 m4, .int .u32 m5, .int .u32 m6, .int .u32 m7, .int .u32 m8, .int .u32 m9] 90)) (.cells #[.int .u8 0, .int .u16 0, .int .u16 0, .int .u8 0, .int .u8 0, .int .u32 0, .int .u32 0, .slice none 0 0, .slice none 0 0] 51)
  rw [World.size_alloc] at hZ0
  have hB0 := (Below.heap_alloc _ (.cells #[.int .u8 0, .int .u16 0, .int .u16 0, .int .u8 0, .int .u8 0, .int .u32 0, .int .u32 0, .slice none 0 0, .slice none 0 0] 51) w.heap.size (by simp)).trans bH
  have hs0 : ((w.alloc (.cells #[.int .u32 m0, .int .u32 m1, .int .u32 m2, .int .u32 m3, .int .u32 m4, .int .u32 m5, .int .u32 m6, .int .u32 m7, .int .u32 m8, .int .u32 m9] 90)).alloc (.cells #[.int .u8 0, .int .u16 0, .int .u16 0, .int .u8 0, .int .u8 0, .int .u32 0, .int .u32 0, .slice none 0 0, .slice none 0 0] 51)).heap.size = w.heap.size + 2 := by simp
  clear bH
  go_enter Tryd.func59, Tryd.ntmps59
  go_wp2_with fail
  generalize (w.alloc (.cells #[.int .u32 m0, .int .u32 m1, .int .u32 m2, .int .u32 m3, .int .u32 m4, .int .u32 m5, .int .u32 m6, .int .u32 m7, .int .u32 m8, .int .u32 m9] 90)).alloc (.cells #[.int .u8 0, .int .u16 0, .int .u16 0, .int .u8 0, .int .u8 0, .int .u32 0, .int .u32 0, .slice none 0 0, .slice none 0 0] 51) = W0 at *
  have R00 := hro.step L0
  have R0 : Row .u8 W0.drew.heap.size W0.drew oa os := R00
  have P00 := hrp.step L0
  have P0 : Row .u8 W0.drew.heap.size W0.drew pa ps := P00
  have c1 : W0.cell? ⟨w.heap.size, 1, none⟩ = some (.int .u32 m1) := by rw [cell_of_row _ _ _ _ _ _ hB0]; rfl
  have c3 : W0.cell? ⟨w.heap.size, 3, none⟩ = some (.int .u32 m3) := by rw [cell_of_row _ _ _ _ _ _ hB0]; rfl
  have c4 : W0.cell? ⟨w.heap.size, 4, none⟩ = some (.int .u32 m4) := by rw [cell_of_row _ _ _ _ _ _ hB0]; rfl
  have c5 : W0.cell? ⟨w.heap.size, 5, none⟩ = some (.int .u32 m5) := by rw [cell_of_row _ _ _ _ _ _ hB0]; rfl
  have c6 : W0.cell? ⟨w.heap.size, 6, none⟩ = some (.int .u32 m6) := by rw [cell_of_row _ _ _ _ _ _ hB0]; rfl
  have c8 : W0.cell? ⟨w.heap.size, 8, none⟩ = some (.int .u32 m8) := by rw [cell_of_row _ _ _ _ _ _ hB0]; rfl
  have c9 : W0.cell? ⟨w.heap.size, 9, none⟩ = some (.int .u32 m9) := by rw [cell_of_row _ _ _ _ _ _ hB0]; rfl
  have e1 : W0.drew.cell? ⟨w.heap.size, 1, none⟩ = some (.int .u32 m1) := c1
  have e3 : W0.drew.cell? ⟨w.heap.size, 3, none⟩ = some (.int .u32 m3) := c3
  have e4 : W0.drew.cell? ⟨w.heap.size, 4, none⟩ = some (.int .u32 m4) := c4
  have e5 : W0.drew.cell? ⟨w.heap.size, 5, none⟩ = some (.int .u32 m5) := c5
  have e6 : W0.drew.cell? ⟨w.heap.size, 6, none⟩ = some (.int .u32 m6) := c6
  have e8 : W0.drew.cell? ⟨w.heap.size, 8, none⟩ = some (.int .u32 m8) := c8
  have e9 : W0.drew.cell? ⟨w.heap.size, 9, none⟩ = some (.int .u32 m9) := c9
  go_region_held3 (fun w' => w'.cell? ⟨w.heap.size, 1, none⟩ = some (.int .u32 m1) ∧ w'.cell? ⟨w.heap.size, 3, none⟩ = some (.int .u32 m3) ∧ w'.cell? ⟨w.heap.size, 4, none⟩ = some (.int .u32 m4) ∧ w'.cell? ⟨w.heap.size, 5, none⟩ = some (.int .u32 m5) ∧ w'.cell? ⟨w.heap.size, 6, none⟩ = some (.int .u32 m6) ∧ w'.cell? ⟨w.heap.size, 8, none⟩ = some (.int .u32 m8) ∧ w'.cell? ⟨w.heap.size, 9, none⟩ = some (.int .u32 m9)) (first | with_reducible exact ⟨cell_s9 hne2 g1, cell_s9 hne2 g3, cell_s9 hne2 g4, cell_s9 hne2 g5, cell_s9 hne2 g6, cell_s9 hne2 g8, cell_s9 hne2 g9⟩ | with_reducible exact ⟨g1, g3, g4, g5, g6, g8, g9⟩ | with_reducible exact ⟨d1, d3, d4, d5, d6, d8, d9⟩ | with_reducible exact ⟨c1, c3, c4, c5, c6, c8, c9⟩ | with_reducible exact ⟨e1, e3, e4, e5, e6, e8, e9⟩)
    (first
      | (go_at_call_of 40 (Value.slice oa os.length oc); refine (clone_any oa os.length oc os rfl W0.drew R0 hon ho').mono ?_; rintro e w1o ⟨A1, C1, rfl, O1, k1'⟩; have k1 : Below W0.heap.size W0 w1o := below_drew k1'; have hB1 := (k1.block w.heap.size (by omega)).trans hB0; have hZ1 := (k1.block (w.heap.size + 1) (by omega)).trans hZ0; have L1 := L0.trans (k1.mono L0.size); have R1 := hro.step L1; have P1 := hrp.step L1; have s1 := k1.size; have d1 := (k1.cell (p := ⟨w.heap.size, 1, none⟩) (by show w.heap.size < W0.heap.size; omega)).trans c1; have d3 := (k1.cell (p := ⟨w.heap.size, 3, none⟩) (by show w.heap.size < W0.heap.size; omega)).trans c3; have d4 := (k1.cell (p := ⟨w.heap.size, 4, none⟩) (by show w.heap.size < W0.heap.size; omega)).trans c4; have d5 := (k1.cell (p := ⟨w.heap.size, 5, none⟩) (by show w.heap.size < W0.heap.size; omega)).trans c5; have d6 := (k1.cell (p := ⟨w.heap.size, 6, none⟩) (by show w.heap.size < W0.heap.size; omega)).trans c6; have d8 := (k1.cell (p := ⟨w.heap.size, 8, none⟩) (by show w.heap.size < W0.heap.size; omega)).trans c8; have d9 := (k1.cell (p := ⟨w.heap.size, 9, none⟩) (by show w.heap.size < W0.heap.size; omega)).trans c9; skip)
      | (go_at_call_of 40 (Value.slice pa ps.length pc); refine (clone_any pa ps.length pc ps rfl w1o P1 hpn hp').mono ?_; rintro e w2 ⟨A2, C2, rfl, O2, k2⟩; have hZ2 := (k2.block (w.heap.size + 1) (by omega)).trans hZ1; have L2 := L1.trans (k2.mono L1.size); have O1' := own_below O1 k2; obtain ⟨⟨z0, z1, z2, z3, z4, z5, z6, z7, z8⟩, zf⟩ := nine_cells hZ2; have y0 := zf 0; have y1 := zf 1; have y2 := zf 2; have y3 := zf 3; have y4 := zf 4; have y5 := zf 5; have y6 := zf 6; have y7 := zf 7; have y8 := zf 8; have hne2 : w.heap.size ≠ w.heap.size + 1 := (by omega); have g1 := (k2.cell (p := ⟨w.heap.size, 1, none⟩) (by show w.heap.size < w1o.heap.size; omega)).trans d1; have g3 := (k2.cell (p := ⟨w.heap.size, 3, none⟩) (by show w.heap.size < w1o.heap.size; omega)).trans d3; have g4 := (k2.cell (p := ⟨w.heap.size, 4, none⟩) (by show w.heap.size < w1o.heap.size; omega)).trans d4; have g5 := (k2.cell (p := ⟨w.heap.size, 5, none⟩) (by show w.heap.size < w1o.heap.size; omega)).trans d5; have g6 := (k2.cell (p := ⟨w.heap.size, 6, none⟩) (by show w.heap.size < w1o.heap.size; omega)).trans d6; have g8 := (k2.cell (p := ⟨w.heap.size, 8, none⟩) (by show w.heap.size < w1o.heap.size; omega)).trans d8; have g9 := (k2.cell (p := ⟨w.heap.size, 9, none⟩) (by show w.heap.size < w1o.heap.size; omega)).trans d9; skip))
  all_goals
    clear z0 z1 z2 z3 z4 z5 z6 z7 z8 y0 y1 y2 y3 y4 y5 y6 y7 y8 zf
  · have C5 := Lib.hid (full_setCells hZ2 [.int .u8 (IntKind.u8.wrap m1), .int .u16 (IntKind.u16.wrap m3), .int .u16 (IntKind.u16.wrap m4), .int .u8 (IntKind.u8.wrap m5), .int .u8 (IntKind.u8.wrap m6), .int .u32 m8, .int .u32 m9, .slice A1 os.length C1, .slice A2 ps.length C2] rfl)
    have L5 := Lib.hid (below_setCells (w.heap.size + 1) (by omega) [.int .u8 (IntKind.u8.wrap m1), .int .u16 (IntKind.u16.wrap m3), .int .u16 (IntKind.u16.wrap m4), .int .u8 (IntKind.u8.wrap m5), .int .u8 (IntKind.u8.wrap m6), .int .u32 m8, .int .u32 m9, .slice A1 os.length C1, .slice A2 ps.length C2] 0 w _ L2)
    have O5 := Lib.hid (own_apartN (by decide) [.int .u8 (IntKind.u8.wrap m1), .int .u16 (IntKind.u16.wrap m3), .int .u16 (IntKind.u16.wrap m4), .int .u8 (IntKind.u8.wrap m5), .int .u8 (IntKind.u8.wrap m6), .int .u32 m8, .int .u32 m9, .slice A1 os.length C1, .slice A2 ps.length C2] 0 _ _ O2 hZ2)
    have O5' := Lib.hid (own_apartN (by decide) [.int .u8 (IntKind.u8.wrap m1), .int .u16 (IntKind.u16.wrap m3), .int .u16 (IntKind.u16.wrap m4), .int .u8 (IntKind.u8.wrap m5), .int .u8 (IntKind.u8.wrap m6), .int .u32 m8, .int .u32 m9, .slice A1 os.length C1, .slice A2 ps.length C2] 0 _ _ O1' hZ2)
    go_wp2
    refine bodyPost_ret (results_cell_row rfl _ _ (w.heap.size + 1) 51 _ (0, 0) _ rfl C5.out Tryd.underlying51 rfl Tryd.infoHead) rfl ?_
    refine ⟨_, rfl, A1, C1, A2, C2, ?_, own_base O5'.out (by show w.heap.size ≤ W0.heap.size; omega), own_base O5.out (by omega), L5.out⟩
    rw [wrap_u8, wrap_u8, wrap_u8, wrap_u16, wrap_u16]
end Go.Proofs.YthenbpnlmpeafaaDoor

/- Whether two heads are the same. -/
namespace Go.Proofs.YthenbpnlmpeafaaDoor
open Go.RowKit
open SumM

/-- Whether two heads are the same. -/
def sameB (sv nu fl ho pr sr ds : Int) (os ps : List Int) (sv' nu' fl' ho' pr' sr' ds' : Int) (os' ps' : List Int) : Bool :=
  decide (sv = sv' ∧ nu = nu' ∧ fl = fl' ∧ ho = ho' ∧ pr = pr' ∧ sr = sr' ∧ ds = ds' ∧ os = os' ∧ ps = ps')
theorem same_no {sv nu fl ho pr sr ds sv' nu' fl' ho' pr' sr' ds' : Int} {os ps os' ps' : List Int} (h : ¬ (sv = sv' ∧ nu = nu' ∧ fl = fl' ∧ ho = ho' ∧ pr = pr' ∧ sr = sr' ∧ ds = ds' ∧ os = os' ∧ ps = ps')) : sameB sv nu fl ho pr sr ds os ps sv' nu' fl' ho' pr' sr' ds' os' ps' = false := decide_eq_false h
theorem same_yes {sv nu fl ho pr sr ds sv' nu' fl' ho' pr' sr' ds' : Int} {os ps os' ps' : List Int} (h0 : sv = sv') (h1 : nu = nu') (h2 : fl = fl') (h3 : ho = ho') (h4 : pr = pr') (h5 : sr = sr') (h6 : ds = ds') (h7 : os = os') : sameB sv nu fl ho pr sr ds os ps sv' nu' fl' ho' pr' sr' ds' os' ps' = eqB ps ps' := by
  simp [sameB, eqB, h0, h1, h2, h3, h4, h5, h6, h7]

set_option maxRecDepth 100000 in
set_option maxHeartbeats 8000000 in
theorem ipSame_any (sv nu fl ho pr sr ds : Int) (oa : Option Addr) (on oc : Nat) (pa : Option Addr) (pn pc : Nat) (sv' nu' fl' ho' pr' sr' ds' : Int) (oa' : Option Addr) (on' oc' : Nat) (pa' : Option Addr) (pn' pc' : Nat) (os ps os' ps' : List Int) (B B' : Nat) (w : World) (hB : B ≤ w.heap.size) (hB' : B' ≤ w.heap.size) (hro : Row .u8 B w oa os) (hol : os.length = on) (hrp : Row .u8 B w pa ps) (hpl : ps.length = pn)
    (hro' : Row .u8 B' w oa' os') (hol' : os'.length = on') (hrp' : Row .u8 B' w pa' ps') (hpl' : ps'.length = pn') :
    Calls Tryd.prog 36 #[.agg #[.int .u8 sv, .int .u16 nu, .int .u16 fl, .int .u8 ho, .int .u8 pr, .int .u32 sr, .int .u32 ds, .slice oa on oc, .slice pa pn pc], .agg #[.int .u8 sv', .int .u16 nu', .int .u16 fl', .int .u8 ho', .int .u8 pr', .int .u32 sr', .int .u32 ds', .slice oa' on' oc', .slice pa' pn' pc']] w fun e w' => e = .returned (.bool (sameB sv nu fl ho pr sr ds os ps sv' nu' fl' ho' pr' sr' ds' os' ps')) ∧ Below w.heap.size w w' := by
  have L0 : Below w.heap.size w ((w.alloc (.cells #[.int .u8 sv, .int .u16 nu, .int .u16 fl, .int .u8 ho, .int .u8 pr, .int .u32 sr, .int .u32 ds, .slice oa on oc, .slice pa pn pc] 51)).alloc (.cells #[.int .u8 sv', .int .u16 nu', .int .u16 fl', .int .u8 ho', .int .u8 pr', .int .u32 sr', .int .u32 ds', .slice oa' on' oc', .slice pa' pn' pc'] 51)) := ((Below.refl _ w).alloc (Nat.le_refl _) _).alloc (by simp) _
  have R1 := hro.below (L0.mono hB)
  have R2 := hrp.below (L0.mono hB)
  have R1' := hro'.below (L0.mono hB')
  have R2' := hrp'.below (L0.mono hB')
  have H1 := Lib.hid L0
  clear L0 hro hrp hro' hrp'
  by_cases e0 : (sv == sv') = true
  rotate_left
  · have f0 : (sv == sv') = false := by simpa using e0
    have HS := Lib.hid (same_no (os := os) (ps := ps) (os' := os') (ps' := ps') (show ¬ (sv = sv' ∧ nu = nu' ∧ fl = fl' ∧ ho = ho' ∧ pr = pr' ∧ sr = sr' ∧ ds = ds' ∧ os = os' ∧ ps = ps') from fun h => e0 (by simpa using h.1)))
    go_enter Tryd.func36, Tryd.ntmps36
    go_wp2
    go_ret
    exact ⟨ret_bool HS.out.symm, H1.out⟩
  by_cases e1 : (nu == nu') = true
  rotate_left
  · have f1 : (nu == nu') = false := by simpa using e1
    have HS := Lib.hid (same_no (os := os) (ps := ps) (os' := os') (ps' := ps') (show ¬ (sv = sv' ∧ nu = nu' ∧ fl = fl' ∧ ho = ho' ∧ pr = pr' ∧ sr = sr' ∧ ds = ds' ∧ os = os' ∧ ps = ps') from fun h => e1 (by simpa using h.2.1)))
    go_enter Tryd.func36, Tryd.ntmps36
    go_wp2
    go_ret
    exact ⟨ret_bool HS.out.symm, H1.out⟩
  by_cases e2 : (fl == fl') = true
  rotate_left
  · have f2 : (fl == fl') = false := by simpa using e2
    have HS := Lib.hid (same_no (os := os) (ps := ps) (os' := os') (ps' := ps') (show ¬ (sv = sv' ∧ nu = nu' ∧ fl = fl' ∧ ho = ho' ∧ pr = pr' ∧ sr = sr' ∧ ds = ds' ∧ os = os' ∧ ps = ps') from fun h => e2 (by simpa using h.2.2.1)))
    go_enter Tryd.func36, Tryd.ntmps36
    go_wp2
    go_ret
    exact ⟨ret_bool HS.out.symm, H1.out⟩
  by_cases e3 : (ho == ho') = true
  rotate_left
  · have f3 : (ho == ho') = false := by simpa using e3
    have HS := Lib.hid (same_no (os := os) (ps := ps) (os' := os') (ps' := ps') (show ¬ (sv = sv' ∧ nu = nu' ∧ fl = fl' ∧ ho = ho' ∧ pr = pr' ∧ sr = sr' ∧ ds = ds' ∧ os = os' ∧ ps = ps') from fun h => e3 (by simpa using h.2.2.2.1)))
    go_enter Tryd.func36, Tryd.ntmps36
    go_wp2
    go_ret
    exact ⟨ret_bool HS.out.symm, H1.out⟩
  by_cases e4 : (pr == pr') = true
  rotate_left
  · have f4 : (pr == pr') = false := by simpa using e4
    have HS := Lib.hid (same_no (os := os) (ps := ps) (os' := os') (ps' := ps') (show ¬ (sv = sv' ∧ nu = nu' ∧ fl = fl' ∧ ho = ho' ∧ pr = pr' ∧ sr = sr' ∧ ds = ds' ∧ os = os' ∧ ps = ps') from fun h => e4 (by simpa using h.2.2.2.2.1)))
    go_enter Tryd.func36, Tryd.ntmps36
    go_wp2
    go_ret
    exact ⟨ret_bool HS.out.symm, H1.out⟩
  by_cases e5 : (sr == sr') = true
  rotate_left
  · have f5 : (sr == sr') = false := by simpa using e5
    have HS := Lib.hid (same_no (os := os) (ps := ps) (os' := os') (ps' := ps') (show ¬ (sv = sv' ∧ nu = nu' ∧ fl = fl' ∧ ho = ho' ∧ pr = pr' ∧ sr = sr' ∧ ds = ds' ∧ os = os' ∧ ps = ps') from fun h => e5 (by simpa using h.2.2.2.2.2.1)))
    go_enter Tryd.func36, Tryd.ntmps36
    go_wp2
    go_ret
    exact ⟨ret_bool HS.out.symm, H1.out⟩
  by_cases e6 : (ds == ds') = true
  rotate_left
  · have f6 : (ds == ds') = false := by simpa using e6
    have HS := Lib.hid (same_no (os := os) (ps := ps) (os' := os') (ps' := ps') (show ¬ (sv = sv' ∧ nu = nu' ∧ fl = fl' ∧ ho = ho' ∧ pr = pr' ∧ sr = sr' ∧ ds = ds' ∧ os = os' ∧ ps = ps') from fun h => e6 (by simpa using h.2.2.2.2.2.2.1)))
    go_enter Tryd.func36, Tryd.ntmps36
    go_wp2
    go_ret
    exact ⟨ret_bool HS.out.symm, H1.out⟩
  by_cases e7 : eqB os os' = true
  rotate_left
  · have f7 : eqB os os' = false := by simpa using e7
    have HS := Lib.hid (same_no (show ¬ (sv = sv' ∧ nu = nu' ∧ fl = fl' ∧ ho = ho' ∧ pr = pr' ∧ sr = sr' ∧ ds = ds' ∧ os = os' ∧ ps = ps') from fun h => e7 (eqB_true.2 h.2.2.2.2.2.2.2.1)))
    go_enter Tryd.func36, Tryd.ntmps36
    go_wp2_with fail
    refine (equal_any _ _ _ os _ _ _ os' B B' _ R1 hol R1' hol').mono ?_
    rintro e w1 ⟨rfl, rfl⟩
    rw [f7]
    go_wp2
    go_ret
    exact ⟨ret_bool HS.out.symm, H1.out⟩
  have HS := Lib.hid (same_yes (ps := ps) (ps' := ps') (by simpa using e0) (by simpa using e1) (by simpa using e2) (by simpa using e3) (by simpa using e4) (by simpa using e5) (by simpa using e6) (eqB_true.1 e7))
  go_enter Tryd.func36, Tryd.ntmps36
  go_wp2_with fail
  refine (equal_any _ _ _ os _ _ _ os' B B' _ R1 hol R1' hol').mono ?_
  rintro e w1 ⟨rfl, rfl⟩
  rw [e7]
  go_wp2_with fail
  refine (equal_any _ _ _ ps _ _ _ ps' B B' _ R2 hpl R2' hpl').mono ?_
  rintro e w1 ⟨rfl, rfl⟩
  go_wp2
  go_ret
  exact ⟨ret_bool HS.out.symm, H1.out⟩
end Go.Proofs.YthenbpnlmpeafaaDoor
