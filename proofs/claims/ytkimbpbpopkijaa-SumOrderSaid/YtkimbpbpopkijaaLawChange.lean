/- 'handfastlaw01.SumChange' returns true at every input, and leaves what lay as it lay. -/
import Derived.Test.YtkimbpbpopkijaaLawWords
import Derived.Test.YtkimbpbpopkijaaMath2
import Derived.Deep.RegionWith
namespace Go.Proofs.Ytkimbpbpopkijaa
open Go.RowKit
open SumM

/-- Is one of these not 0? -/
def nz (l : List Int) : Bool := l.any (· != 0)
theorem nz_snoc (l : List Int) (x : Int) : nz (l ++ [x]) = (nz l || x != 0) := by simp [nz]
theorem take_snoc (l : List Int) (k : Nat) (h : k < l.length) : l.take (k + 1) = l.take k ++ [l[k]?.getD 0] := by
  rw [List.take_add_one]
  simp [h]
theorem nz_tot {l : List Int} (h : In 65535 l) : (nz l = false → tot l = 0) ∧ (nz l = true → 0 < tot l) := by
  have hz := tot_zero l h
  have hp := tot_in l h
  have hn : nz l = false ↔ ∀ x ∈ l, x = 0 := by simp [nz]
  refine ⟨fun e => hz.2 (hn.1 e), fun e => ?_⟩
  rcases Int.lt_or_eq_of_le hp.1 with h0 | h0
  · exact h0
  · rw [hn.2 (hz.1 h0.symm)] at e
    cases e

set_option maxRecDepth 100000 in
set_option maxHeartbeats 1000000 in
theorem sumChange_walk (a0 : Option Addr) (len0 cap0 : Nat) (z0 : List Int) (a1 now : Int) (w : World) (w0 : IsRow .u16 w a0 len0 cap0 z0) (w1 : (Lit.int .i64 a1).wf = true) (w2 : (Lit.int .u16 now).wf = true) :
    Calls Try.prog 6 #[.slice a0 len0 cap0, .int .i64 a1, .int .u16 now] w fun e w' => e = .returned (.bool true) ∧ Below w.heap.size w w' := by
  obtain ⟨hr, hl, hn0, hlc, hm⟩ := w0.row
  have hA := wf_i64.1 w1
  have hB := wf_u16.1 w2
  clear w0 w1 w2
  generalize z0.take len0 = ls at *
  have hin : In 65535 ls := fun x hx => wf_u16.1 (hr.1 x hx)
  have HL := Lib.hid hl
  have HN := Lib.hid hn0
  clear hl hn0
  unfold maxLen at hm
  by_cases hsmall : len0 = 0
  · have hz : ((len0 : Int) == 0) = true := by simp; omega
    have HS := Lib.hid hsmall
    clear hsmall
    go_enter Try.func6, Try.ntmps6
    go_wp2_with (go_at_call 8; refine (wakes_any _).mono ?_; rintro e w1 ⟨rfl, hb1⟩)
    go_ret
    exact ⟨rfl, hb1⟩
  have hz : ((len0 : Int) == 0) = false := by simp; omega
  by_cases hbig : 2000 < len0
  · go_enter Try.func6, Try.ntmps6
    go_wp2_with (go_at_call 8; refine (wakes_any _).mono ?_; rintro e w1 ⟨rfl, hb1⟩)
    go_ret
    exact ⟨rfl, hb1⟩
  obtain ⟨m, j, hm1, hm2, hm3, hm4, hj⟩ := at_mod a1 len0 (by omega) (by omega)
  obtain ⟨i0, hi, hz0, hz1, hz2⟩ := info_parts Try.infoU16
  go_enter Try.func6, Try.ntmps6
  go_wp2_with (at_builtin; refine wpList_append_row _ rfl (.tmp 27) (.tmp 28) 23 rfl w.heap.size 24 i0 (.int .u16 0) 2 Try.underlying23 hi hz0 hz1 hz2 rfl _ 0 [] rfl (own_built w w.heap.size (Nat.le_refl _) 24 [] 0 rfl (by unfold maxLen; omega)) .u16 _ _ _ _ ls rfl HL.out (hr.below ((Below.refl _ _).alloc (Nat.le_refl _) _)) HN.out (by unfold maxLen; omega) (by omega) (by simp) ?_; intro v1 w3 hown1 hgrow1; simp only [Nat.zero_add, List.nil_append] at hown1; have L1 := ((Below.refl w.heap.size w).alloc (Nat.le_refl _) (.cells #[] 24)).grown hgrow1 (by simp) (fun j hj => by cases hj; exact Nat.le_refl _); obtain ⟨g, cp, rfl, hg⟩ := own_form hown1 (by omega); have hx1 := own_cell hown1 j (by omega); have hf1 := hown1.frozenAt j)
  have hs1 := own_store hown1 j now
  have L2 := L1.setCell (p := ⟨g, j, none⟩) hg (.int .u16 now)
  generalize w3.setCell ⟨g, j, none⟩ (.int .u16 now) = W at *
  clear hx1 hf1 hown1 L1 hgrow1
  have hio : In 65535 (ls.set j now) := in_set hin j now hB
  have HT := Lib.hid (tot_set ls j (by rw [HL.out]; exact hj) now)
  have hol : (ls.set j now).length = len0 := by simp [HL.out]
  generalize ls.set j now = os at *
  have HO := Lib.hid hol
  clear hol
  go_loop [9, 10] (fun s i => ∃ k : Nat, k ≤ len0 ∧ i = .int .i64 k ∧ s = .bool (nz (os.take k))) (fun _ i => len0 - (intOf i).toNat)
  case atStart => exact ⟨0, Nat.zero_le _, rfl, rfl⟩
  case round =>
    obtain ⟨k, hk, rfl, rfl⟩ := hrel
    by_cases hlt : k < len0
    · have hx := own_cell hs1 k hlt
      have HK := Lib.hid (show nz (os.take (k + 1)) = (nz (os.take k) || os[k]?.getD 0 != 0) by rw [take_snoc os k (by rw [HO.out]; exact hlt), nz_snoc])
      generalize nz (os.take k) = s at *
      cases s
      · go_wp2
        go_round
        case rel => exact ⟨k + 1, by omega, by go_num, by rw [HK.out]; rfl⟩
        case measure => simp [intOf]; omega
      · go_wp2
        go_round
        case rel => exact ⟨k + 1, by omega, by go_num, by rw [HK.out]; rfl⟩
        case measure => simp [intOf]; omega
    · obtain rfl : k = len0 := by omega
      have he : os.take k = os := List.take_of_length_le (by rw [HO.out]; exact Nat.le_refl _)
      have HE := Lib.hid he
      clear he
      rw [HE.out]
      have hnz := nz_tot hio
      cases hb : nz os
      · have hc0 : (cr (tot os) == 0) = true := by rw [hnz.1 hb]; rfl
        clear hnz hb
        go_wp2_with (first
          | (go_at_call 12; refine (fold_any _ _ _ _ os _ (Row.of_own hs1 (in_wf16 hio)) HO.out (by omega)).mono ?_; rintro e w1 ⟨rfl, rfl⟩)
          | (go_at_call 8; refine (wakes_any _).mono ?_; rintro e w1 ⟨rfl, hb1⟩))
        go_ret
        exact ⟨rfl, L2.trans (hb1.mono L2.size)⟩
      · have hpos := hnz.2 hb
        clear hnz hb
        have hgx := getD_in hin (by decide) j
        have hsg : IntKind.u16.signed = false := rfl
        have hC := cr_in (tot ls)
        have hD := cr_in (tot os)
        have e1 := not_u16 (cr (tot ls)) hC.1 hC.2
        have e2 := not_u16 (cr (tot os)) hD.1 hD.2
        have HR := Lib.hid (show 65535 - cr (65535 - (65535 - cr (tot ls)) + (65535 - ls[j]?.getD 0) + now) = 65535 - cr (tot os) by
          have ht := tot_in (ls.set j 0) (in_set hin j 0 ⟨by decide, by decide⟩)
          rw [tot_set ls j (by rw [HL.out]; exact hj) 0] at ht
          have := cr_change (t := tot ls) (o := ls[j]?.getD 0) (n := now) (by omega) hgx.1 hgx.2 hB.1 hB.2 (by rw [← HT.out]; exact hpos)
          rw [show 65535 - (65535 - cr (tot ls)) = cr (tot ls) by omega, this, HT.out])
        obtain ⟨b, off, rfl, _, hcs⟩ := (hr.below L2).2 (by rw [HL.out]; omega)
        have hcx := hcs j (by rw [HL.out]; omega)
        clear hcs
        have L2d := L2.drew
        have hs1d := hs1.drew
        go_wp2_with fail
        go_region_with (first
          | (go_at_call_of 12 (Value.slice (some ⟨b, off, none⟩) k cap0); refine (fold_any _ _ _ w.heap.size ls _ ?_ HL.out (by omega)).mono ?_; exact hr.below L2d; rintro e w1 ⟨rfl, rfl⟩)
          | (go_at_call 20; refine (change_any _ _ _ _ (by omega) (by omega) (by omega)).mono ?_; rintro e w1 ⟨rfl, m1⟩; rw [HR.out])
          | (go_at_call_of 12 (Value.slice (some ⟨g, 0, none⟩) k cp); refine (fold_here _ _ _ os _ ?_ HO.out (by omega)).mono ?_; exact Row.of_own (own_below hs1d m1) (in_wf16 hio); rintro e w2 ⟨rfl, rfl⟩)
          | (go_at_call 8; refine (wakes_any _).mono ?_; rintro e w3 ⟨rfl, m3⟩))
        all_goals go_wp2
        all_goals go_ret
        all_goals exact ⟨rfl, (L2d.trans (m1.mono L2d.size)).trans (m3.mono (L2d.trans (m1.mono L2d.size)).size)⟩
end Go.Proofs.Ytkimbpbpopkijaa
