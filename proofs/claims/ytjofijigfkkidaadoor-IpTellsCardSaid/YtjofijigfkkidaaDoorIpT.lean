/- The document's own answers on heads: Size, two, four, number, check. -/
import Derived.Test.YtjofijigfkkidaaDoorIpB2
import Derived.Laws.BitsAllLaws
namespace Go.Proofs.YtjofijigfkkidaaDoor
open Go.RowKit
open SumM

set_option maxRecDepth 100000 in
set_option maxHeartbeats 1000000 in
theorem refSize_any (sv nu fl ho pr sr ds : Int) (oa : Option Addr) (on oc : Nat) (pa : Option Addr) (pn pc : Nat) (w : World) (ho' : on ≤ 281474976710656) (hp' : pn ≤ 281474976710656) :
    Calls Tryd.prog 17 #[.agg #[.int .u8 sv, .int .u16 nu, .int .u16 fl, .int .u8 ho, .int .u8 pr, .int .u32 sr, .int .u32 ds, .slice oa on oc, .slice pa pn pc]] w fun e w' => e = .returned (.int .i64 (if rightB fl on pn = true then 20 + (on : Int) + pn else 0)) ∧ Below w.heap.size w w' := by
  by_cases hr : rightB fl on pn = true
  · rw [if_pos hr]
    have HR := Lib.hid hr
    clear hr
    go_enter Tryd.func17, Tryd.ntmps17
    go_wp2_with fail
    refine (refRight_any _ _ _ _ _ _ _ _ _ _ _ _ _ _ ho' hp').mono ?_
    rintro e w1 ⟨rfl, m1⟩
    rw [HR.out]
    obtain ⟨hc, hf⟩ := bcell m1
    go_wp2
    go_ret
    exact ⟨rfl, below_alloc1 m1⟩
  · rw [if_neg hr]
    have HR := Lib.hid (show rightB fl on pn = false by simpa using hr)
    clear hr
    go_enter Tryd.func17, Tryd.ntmps17
    go_wp2_with fail
    refine (refRight_any _ _ _ _ _ _ _ _ _ _ _ _ _ _ ho' hp').mono ?_
    rintro e w1 ⟨rfl, m1⟩
    rw [HR.out]
    obtain ⟨hc, hf⟩ := bcell m1
    go_wp2
    go_ret
    exact ⟨rfl, below_alloc1 m1⟩


theorem i64_and255 (n : Int) : bits .and .i64 n 255 = n % 256 := by
  have h : (BitVec.ofInt 64 255).toNat = 2 ^ 8 - 1 := by decide
  have key : (BitVec.ofInt 64 n &&& BitVec.ofInt 64 255).toNat = (n % ((2 ^ 64 : Nat) : Int)).toNat % 2 ^ 8 := by
    rw [BitVec.toNat_and, BitVec.toNat_ofInt, h, Nat.and_two_pow_sub_one_eq_mod]
  show IntKind.i64.wrap ((BitVec.ofInt 64 n &&& BitVec.ofInt 64 255).toNat : Nat) = n % 256
  rw [key, IntKind.wrap_i64]
  omega
theorem u32_and65535 (n : Int) (h0 : 0 ≤ n) (h1 : n ≤ 4294967295) : bits .and .u32 n 65535 = n % 65536 := by
  rw [u32_and n 65535 h0 (by omega) (by omega) (by omega)]
  have e : (n.toNat &&& (65535 : Int).toNat : Nat) = n.toNat % 65536 := Nat.and_two_pow_sub_one_eq_mod n.toNat 16
  rw [e]
  omega

/-- Two bytes, just made. -/
theorem two_any (n : Int) (hn : 0 ≤ n ∧ n ≤ 65535) (w : World) :
    Calls Tryd.prog 28 #[.int .i64 n] w fun e w' => e = .returned (.slice (some ⟨w.heap.size, 0, none⟩) 2 2) ∧ w' = w.alloc (.cells #[.int .u8 (n / 256), .int .u8 (n % 256)] 5) := by
  have e1 : bits .and .i64 (n / 256) 255 = n / 256 := by rw [i64_and255]; omega
  have e2 : bits .and .i64 n 255 = n % 256 := i64_and255 n
  have e3 : IntKind.u8.wrap (n / 256) = n / 256 := by rw [IntKind.wrap_u8]; omega
  have e4 : IntKind.u8.wrap (n % 256) = n % 256 := by rw [IntKind.wrap_u8]; omega
  go_enter Tryd.func28, Tryd.ntmps28
  go_wp2
  go_ret
  exact ⟨rfl, rfl⟩

set_option maxRecDepth 100000 in
set_option maxHeartbeats 400000 in
theorem number_any (a : Option Addr) (len cap B : Nat) (zs : List Int) (w : World) (h : Row .u8 B w a zs) (hl : zs.length = len) (hs : len ≤ 4) :
    Calls Tryd.prog 33 #[.slice a len cap] w fun e w' => e = .returned (.int .i64 (numOf zs)) ∧ w = w' := by
  have hin : In 255 zs := fun x hx => wf_u8.1 (h.1 x hx)
  have HL := Lib.hid hl
  clear hl
  go_enter Tryd.func33, Tryd.ntmps33
  go_wp2
  go_loop [3, 4] (fun t i => ∃ k : Nat, k ≤ len ∧ i = .int .i64 k ∧ t = .int .i64 (numOf (zs.take k))) (fun _ i => len - (intOf i).toNat)
  case atStart => exact ⟨0, Nat.zero_le _, rfl, rfl⟩
  case round =>
    obtain ⟨k, hk, rfl, rfl⟩ := hrel
    by_cases hlt : k < len
    · obtain ⟨b, off, rfl, _, hc⟩ := h.2 (by rw [HL.out]; omega)
      have hcx := hc k (by rw [HL.out]; omega)
      have hx := getD_in hin (by decide) k
      have hb := numOf_in (zs.take k) (fun x hx => hin x (List.mem_of_mem_take hx))
      have hp : numOf (zs.take k) < 16777216 := by
        have e : (zs.take k).length = k := by simp; rw [HL.out]; omega
        rw [e] at hb
        have : (256 : Int) ^ k ≤ 256 ^ 3 := by
          obtain rfl | rfl | rfl | rfl : k = 0 ∨ k = 1 ∨ k = 2 ∨ k = 3 := by omega
          all_goals decide
        omega
      have HT := Lib.hid (show numOf (zs.take (k + 1)) = numOf (zs.take k) * 256 + zs[k]?.getD 0 by
        have hk' : k < zs.length := by rw [HL.out]; exact hlt
        rw [List.take_add_one, show zs[k]?.toList = [zs[k]?.getD 0] by simp [hk'], numOf_snoc])
      have h0 := hb.1
      clear hc h hin hb
      go_wp2
      go_round
      case rel => exact ⟨k + 1, by omega, by go_num, by rw [HT.out]; go_num⟩
      case measure => simp [intOf]; omega
    · obtain rfl : k = len := by omega
      have he : zs.take k = zs := List.take_of_length_le (by rw [HL.out]; exact Nat.le_refl _)
      have HE := Lib.hid he
      clear he
      rw [HE.out]
      go_wp2
      go_ret
      exact ⟨rfl, rfl⟩

/-- Four bytes of the call's own. -/
def FourRet (zs : List Int) (w : World) (e : Ending) (w' : World) : Prop :=
  ∃ g c, e = .returned (.slice (some ⟨g, 0, none⟩) 4 c) ∧ w'.ownsRow w.heap.size 5 1 (.slice (some ⟨g, 0, none⟩) 4 c) 4 (zs.map (Value.int .u8)) ∧ Below w.heap.size w w'
def fourOf (n : Int) : List Int := [n / 65536 / 256, n / 65536 % 256, n % 65536 / 256, n % 256]
set_option maxHeartbeats 1000000 in
theorem four_any (n : Int) (hn : 0 ≤ n ∧ n ≤ 4294967295) (w : World) : Calls Tryd.prog 29 #[.int .u32 n] w (FourRet (fourOf n) w) := by
  have e1 : bits .and .u32 n 65535 = n % 65536 := u32_and65535 n hn.1 hn.2
  obtain ⟨i0, hi, hz0, hz1, hz2⟩ := info_parts Tryd.infoU8
  have l1 := (Below.refl w.heap.size w).alloc (Nat.le_refl _) (.cells #[.int .u8 (n / 65536 / 256), .int .u8 (n / 65536 % 256)] 5)
  have l2 := l1.alloc l1.size (.cells #[.int .u8 (n % 65536 / 256), .int .u8 (n % 256)] 5)
  have O1 := own_built w w.heap.size (Nat.le_refl _) 5 [.int .u8 (n / 65536 / 256), .int .u8 (n / 65536 % 256)] 2 rfl (by unfold maxLen; omega)
  have O1 := Lib.hid (O1.alloc (.cells #[.int .u8 (n % 65536 / 256), .int .u8 (n % 256)] 5))
  have R2 := Lib.hid (Row.builtAt .u8 (w := w.alloc (.cells #[.int .u8 (n / 65536 / 256), .int .u8 (n / 65536 % 256)] 5)) (n := w.heap.size + 1) (by simp) 5 [n % 65536 / 256, n % 256] (in_wf8 (by intro x hx; simp only [List.mem_cons, List.not_mem_nil, or_false] at hx; omega)))
  go_enter Tryd.func29, Tryd.ntmps29
  go_wp2_with (first
    | (go_at_call 28; refine (two_any _ (by omega) _).mono ?_; rintro e w1 ⟨rfl, rfl⟩)
    | (at_builtin; refine wpList_append_row _ rfl (.tmp 6) (.tmp 10) 24 rfl w.heap.size 5 i0 (.int .u8 0) 1 Tryd.underlying24 hi hz0 hz1 hz2 rfl (.slice (some ⟨w.heap.size, 0, none⟩) 2 2) 2 _ rfl O1.out .u8 _ _ 2 2 [n % 65536 / 256, n % 256] rfl rfl R2.out (fun h => by cases h) (by unfold maxLen; omega) (by omega) l2.size ?_; intro v3 w3 O3 hgrow3; have L3 := l2.grown hgrow3 l2.size (fun e he => by cases he <;> exact Nat.le_refl _)))
  go_ret
  obtain ⟨g, c, rfl, hg⟩ := own_form O3 (by omega)
  exact ⟨g, c, rfl, O3, L3⟩

set_option maxRecDepth 100000 in
theorem rcheckOf_any (a : Option Addr) (n c : Nat) (zs : List Int) (hl : zs.length = n) (h12 : 12 ≤ n) (hn : n ≤ 1000000) (w : World) (hR : Row .u8 w.heap.size w a zs) (hnil : a = none → c = 0) :
    Calls Tryd.prog 34 #[.slice a n c] w fun e w' => e = .returned (.int .i64 (chkOf zs)) ∧ Below w.heap.size w w' := by
  have HL := Lib.hid hl
  have HN := Lib.hid hnil
  have HI := row_in hR
  clear hl hnil
  obtain ⟨i0, hi, hz0, hz1, hz2⟩ := info_parts Tryd.infoU8
  have l0 := (Below.refl w.heap.size w).alloc (Nat.le_refl _) (.cells #[] 5)
  go_enter Tryd.func34, Tryd.ntmps34
  go_wp2_with (at_builtin; refine wpList_append_row _ rfl (.tmp 4) (.tmp 5) 24 rfl w.heap.size 5 i0 (.int .u8 0) 1 Tryd.underlying24 hi hz0 hz1 hz2 rfl (.slice (some ⟨w.heap.size, 0, none⟩) 0 0) 0 [] rfl (own_built w w.heap.size (Nat.le_refl _) 5 [] 0 rfl (by unfold maxLen; omega)) .u8 w.heap.size a n c zs rfl HL.out (hR.below l0) HN.out (by unfold maxLen; omega) (by omega) (by simp) ?_; intro v1 w1 O1 hgrow1; simp only [Nat.zero_add, List.nil_append] at O1; have L1 := l0.grown hgrow1 l0.size (fun e he => by cases he <;> exact Nat.le_refl _); obtain ⟨g, cp, rfl, hg⟩ := own_form O1 (by omega); have x1 := own_cell O1 10 (by omega); have f1 := O1.frozenAt 10; have O2 := own_store O1 10 0; have x2 := own_cell O2 11 (by omega); have f2 := O2.frozenAt 11)
  have O3 := own_store O2 11 0
  have L3 := (L1.setCell (p := ⟨g, 10, none⟩) hg (.int .u8 0)).setCell (p := ⟨g, 11, none⟩) hg (.int .u8 0)
  have I3 := in_set (in_set HI 10 0 ⟨by decide, by decide⟩) 11 0 ⟨by decide, by decide⟩
  have HC := Lib.hid (show chkOf zs = 65535 - sumOf ((zs.set 10 0).set 11 0) from rfl)
  have hK := cr_in (tot (words ((zs.set 10 0).set 11 0)))
  refine (rcheck_any _ n cp ((zs.set 10 0).set 11 0) (by simp [HL.out]) (by omega) _ (Row.of_own O3 (in_wf8 I3))).mono ?_
  rintro e w4 ⟨rfl, m4⟩
  rw [← HC.out]
  have hc0 : 0 ≤ chkOf zs ∧ chkOf zs ≤ 65535 := by rw [HC.out]; unfold sumOf; omega
  clear x1 x2 f1 f2 O1 O2 O3 hK I3
  obtain ⟨K, hKK⟩ : ∃ K, chkOf zs = K := ⟨_, rfl⟩
  rw [hKK] at hc0 ⊢
  have HKK := Lib.hid hKK
  clear hKK
  go_wp2
  go_ret
  exact ⟨ret_int HKK.out.symm, L3.trans (m4.mono L3.size)⟩
end Go.Proofs.YtjofijigfkkidaaDoor
