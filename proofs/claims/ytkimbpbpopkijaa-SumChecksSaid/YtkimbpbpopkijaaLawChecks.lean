/- 'handfastlaw01.SumChecks' returns true at every input, and leaves what lay as it lay. -/
import Derived.Test.YtkimbpbpopkijaaLawWords
import Derived.Test.YtkimbpbpopkijaaMath2
namespace Go.Proofs.Ytkimbpbpopkijaa
open Go.RowKit
open SumM

/-- 'x ^ 1<<s' of a byte. -/
theorem xor_u8_bit (x : Int) (h0 : 0 ≤ x) (h1 : x ≤ 255) (s : Nat) (hs : s < 8) :
    (bits .xor .u8 x ((2 : Int) ^ s % 256) = x + (2 ^ s : Nat) ∨ bits .xor .u8 x ((2 : Int) ^ s % 256) + (2 ^ s : Nat) = x) ∧ 0 ≤ bits .xor .u8 x ((2 : Int) ^ s % 256) ∧ bits .xor .u8 x ((2 : Int) ^ s % 256) ≤ 255 := by
  have hp := pow_le s hs
  have e : (2 : Int) ^ s % 256 = ((2 ^ s : Nat) : Int) := by
    rw [show (2 : Int) ^ s = ((2 ^ s : Nat) : Int) by simp]
    omega
  have hb := xor_bit x.toNat s (by omega) hs
  have hl : x.toNat ^^^ 2 ^ s < 256 := Nat.xor_lt_two_pow (n := 8) (by omega) (by omega)
  rw [e, u8_xor x _ h0 (by omega) (by omega) (by omega), show (((2 ^ s : Nat) : Int)).toNat = 2 ^ s from rfl]
  generalize x.toNat ^^^ 2 ^ s = y at *
  generalize 2 ^ s = d at *
  omega

set_option maxRecDepth 100000 in
set_option maxHeartbeats 1000000 in
theorem sumChecks_walk (a0 : Option Addr) (len0 cap0 : Nat) (z0 : List Int) (a1 a2 : Int) (w : World) (w0 : IsRow .u8 w a0 len0 cap0 z0) (w1 : (Lit.int .i64 a1).wf = true) (w2 : (Lit.int .i64 a2).wf = true) :
    Calls Try.prog 4 #[.slice a0 len0 cap0, .int .i64 a1, .int .i64 a2] w fun e w' => e = .returned (.bool true) ∧ Below w.heap.size w w' := by
  obtain ⟨hr, hl, hn0, hlc, hm⟩ := w0.row
  have hA := wf_i64.1 w1
  have hB := wf_i64.1 w2
  clear w0 w1 w2
  generalize z0.take len0 = bs at *
  have hin : In 255 bs := fun x hx => wf_u8.1 (hr.1 x hx)
  have HL := Lib.hid hl
  have HN := Lib.hid hn0
  clear hl hn0
  unfold maxLen at hm
  by_cases hsmall : len0 / 2 = 0
  · have hz : ((len0 : Int) / 2 == 0) = true := by simp; omega
    go_enter Try.func4, Try.ntmps4
    go_wp2_with (go_at_call 8; refine (wakes_any _).mono ?_; rintro e w1 ⟨rfl, hb1⟩)
    go_ret
    exact ⟨rfl, hb1⟩
  have hz : ((len0 : Int) / 2 == 0) = false := by simp; omega
  by_cases hbig : 3000 < len0
  · go_enter Try.func4, Try.ntmps4
    go_wp2_with (go_at_call 8; refine (wakes_any _).mono ?_; rintro e w1 ⟨rfl, hb1⟩)
    go_ret
    exact ⟨rfl, hb1⟩
  obtain ⟨n, hn, hnl⟩ : ∃ n : Nat, len0 / 2 = n ∧ 2 * n ≤ len0 := ⟨_, rfl, by omega⟩
  obtain ⟨m, j, hm1, hm2, hm3, hm4, hj⟩ := at_mod a1 n (by omega) (by omega)
  have hni : (len0 : Int) / 2 = (n : Int) := by omega
  have hnp : 1 ≤ n := by omega
  have hz' : ((n : Int) == 0) = false := by simp; omega
  clear hn hsmall hz
  obtain ⟨i0, hi, hz0, hz1, hz2⟩ := info_parts Try.infoU8
  go_enter Try.func4, Try.ntmps4
  go_wp2_with (at_builtin; refine wpList_append_row _ rfl (.tmp 30) (.tmp 31) 22 rfl w.heap.size 5 i0 (.int .u8 0) 1 Try.underlying22 hi hz0 hz1 hz2 rfl _ 0 [] rfl (own_built w w.heap.size (Nat.le_refl _) 5 [] 0 rfl (by unfold maxLen; omega)) .u8 _ _ _ _ bs rfl HL.out (hr.below ((Below.refl _ _).alloc (Nat.le_refl _) _)) HN.out (by unfold maxLen; omega) (by omega) (by simp) ?_; intro v1 w3 hown1 hgrow1; simp only [Nat.zero_add, List.nil_append] at hown1; have L1 := ((Below.refl w.heap.size w).alloc (Nat.le_refl _) (.cells #[] 5)).grown hgrow1 (by simp) (fun j hj => by cases hj; exact Nat.le_refl _); obtain ⟨g, cp, rfl, hg⟩ := own_form hown1 (by omega); have hx1 := own_cell hown1 (2 * j) (by omega); have hf1 := hown1.frozenAt (2 * j); have hs1 := own_store hown1 (2 * j) 0; have hx2 := own_cell hs1 (2 * j + 1) (by omega); have hf2 := hs1.frozenAt (2 * j + 1))
  have hs2 := own_store hs1 (2 * j + 1) 0
  have L2 := (L1.setCell (p := ⟨g, 2 * j, none⟩) hg (.int .u8 0)).setCell (p := ⟨g, 2 * j + 1, none⟩) hg (.int .u8 0)
  generalize (w3.setCell ⟨g, 2 * j, none⟩ (.int .u8 0)).setCell ⟨g, 2 * j + 1, none⟩ (.int .u8 0) = W at *
  clear hx1 hx2 hf1 hf2 hs1 hown1 L1 hgrow1
  have hic : In 255 ((bs.set (2 * j) 0).set (2 * j + 1) 0) := in_set (in_set hin _ 0 ⟨by decide, by decide⟩) _ 0 ⟨by decide, by decide⟩
  have HR := Lib.hid (right_set bs hin j (by rw [HL.out]; omega) _ rfl)
  have hcl : ((bs.set (2 * j) 0).set (2 * j + 1) 0).length = len0 := by simp [HL.out]
  generalize (bs.set (2 * j) 0).set (2 * j + 1) 0 = cs at *
  have HC := Lib.hid hcl
  clear hcl
  refine (check_any _ _ _ cs HC.out (by omega) _ (Row.of_own hs2 (in_wf8 hic))).mono ?_
  rintro e w4 ⟨rfl, m4⟩
  have hK : 0 ≤ 65535 - sumOf cs ∧ 65535 - sumOf cs ≤ 65535 := by
    have : 0 ≤ sumOf cs ∧ sumOf cs ≤ 65535 := cr_in _
    omega
  generalize 65535 - sumOf cs = K at *
  have hs3 := own_below hs2 m4
  have L3 := L2.trans (m4.mono L2.size)
  clear hs2 L2 m4
  have hy1 := own_cell hs3 (2 * j) (by omega)
  have hg1 := hs3.frozenAt (2 * j)
  have ht1 := own_store hs3 (2 * j) (K / 256)
  have hy2 := own_cell ht1 (2 * j + 1) (by omega)
  have hg2 := ht1.frozenAt (2 * j + 1)
  have e8 : IntKind.u8.wrap K = K % 256 := IntKind.wrap_u8 K
  go_wp2_with fail
  have ht2 := own_store ht1 (2 * j + 1) (K % 256)
  have L4 := (L3.setCell (p := ⟨g, 2 * j, none⟩) hg (.int .u8 (K / 256))).setCell (p := ⟨g, 2 * j + 1, none⟩) hg (.int .u8 (K % 256))
  generalize (w4.setCell ⟨g, 2 * j, none⟩ (.int .u8 (K / 256))).setCell ⟨g, 2 * j + 1, none⟩ (.int .u8 (K % 256)) = W4 at *
  clear hy1 hy2 hg1 hg2 ht1 hs3 L3 e8
  have hid : In 255 ((cs.set (2 * j) (K / 256)).set (2 * j + 1) (K % 256)) := in_set (in_set hic _ _ (by omega)) _ _ (by omega)
  have hdl : ((cs.set (2 * j) (K / 256)).set (2 * j + 1) (K % 256)).length = len0 := by simp [HC.out]
  generalize (cs.set (2 * j) (K / 256)).set (2 * j + 1) (K % 256) = ds at *
  have HD := Lib.hid hdl
  clear hdl
  refine (right_any _ _ _ ds HD.out (by omega) _ (Row.of_own ht2 (in_wf8 hid))).mono ?_
  rintro e w5 ⟨rfl, m5⟩
  have hrt : (sumOf ds == 65535) = true := by rw [HR.out]; rfl
  have hu := own_below ht2 m5
  have L5 := L4.trans (m5.mono L4.size)
  clear ht2 L4 m5
  obtain ⟨N, hN⟩ : ∃ N : Nat, 8 * len0 = N := ⟨_, rfl⟩
  obtain ⟨m', q, hq1, hq2, hq3, hq4, hq⟩ := at_mod a2 N (by omega) (by omega)
  have hNi : 8 * (len0 : Int) = (N : Int) := by omega
  have hqp : q / 8 < len0 := by omega
  have hNb : N ≤ 24000 := by omega
  have hNp : 1 ≤ N := by omega
  clear hN
  have hv1 := own_cell hu (q / 8) (by omega)
  have hw1 := hu.frozenAt (q / 8)
  have hvb := getD_in hid (by decide) (q / 8)
  go_wp2_with fail
  have hxb := xor_u8_bit (ds[q / 8]?.getD 0) hvb.1 hvb.2 (q % 8) (by omega)
  generalize bits .xor .u8 (ds[q / 8]?.getD 0) ((2 : Int) ^ (q % 8) % 256) = V at *
  have hst := own_store hu (q / 8) V
  have L6 := L5.setCell (p := ⟨g, q / 8, none⟩) hg (.int .u8 V)
  generalize w5.setCell ⟨g, q / 8, none⟩ (.int .u8 V) = W6 at *
  clear hu L5 hv1 hw1
  have hne := wrong_set ds HR.out (q / 8) (by rw [HD.out]; omega) V (q % 8) (by omega) hxb.1
  have hie := in_set hid (q / 8) V hxb.2
  refine (right_any _ _ _ (ds.set (q / 8) V) (by simp [HD.out]) (by omega) _ (Row.of_own hst (in_wf8 hie))).mono ?_
  rintro e w6 ⟨rfl, m6⟩
  have L7 := L6.trans (m6.mono L6.size)
  have hwr : (sumOf (ds.set (q / 8) V) == 65535) = false := by simp [hne]
  clear hst L6 m6 hxb hie hne
  go_wp2_with (go_at_call 8; refine (wakes_any _).mono ?_; rintro e w7 ⟨rfl, m7⟩)
  go_ret
  exact ⟨rfl, L7.trans (m7.mono L7.size)⟩
end Go.Proofs.Ytkimbpbpopkijaa
