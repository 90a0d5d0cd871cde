/- 'handfastlaw01.SumOrder' returns true at every input, and leaves what lay as it lay. -/
import Derived.Test.YtkimbpbpopkijaaLawChange
import Derived.RegionTactic
import Derived.Deep.RegionLaw
import Derived.Deep.RegionHeld3
import Derived.Deep.AppendLies
namespace Go.Proofs.Ytkimbpbpopkijaa
open Go.RowKit
open SumM

theorem in_snoc0 {l : List Int} (h : In 65535 l) : In 65535 (l ++ [0]) := by
  intro x hx
  rcases List.mem_append.1 hx with h' | h'
  · exact h x h'
  · simp at h'
    omega

set_option maxRecDepth 100000 in
set_option maxHeartbeats 2000000 in
theorem sumOrder_walk (a0 : Option Addr) (len0 cap0 : Nat) (z0 : List Int) (a1 a2 : Int) (w : World) (w0 : IsRow .u16 w a0 len0 cap0 z0) (w1 : (Lit.int .i64 a1).wf = true) (w2 : (Lit.int .i64 a2).wf = true) :
    Calls Try.prog 5 #[.slice a0 len0 cap0, .int .i64 a1, .int .i64 a2] w fun e w' => e = .returned (.bool true) ∧ Below w.heap.size w w' := by
  obtain ⟨hr, hl, hn0, hlc, hm⟩ := w0.row
  have hA := wf_i64.1 w1
  have hB := wf_i64.1 w2
  clear w0 w1 w2
  generalize z0.take len0 = ls at *
  have hin : In 65535 ls := fun x hx => wf_u16.1 (hr.1 x hx)
  have HL := Lib.hid hl
  have HN := Lib.hid hn0
  clear hl hn0
  unfold maxLen at hm
  have hf0 : (cr (tot []) == 0) = true := by decide
  by_cases hsmall : len0 = 0
  · have hz : ((len0 : Int) == 0) = true := by simp; omega
    have HS := Lib.hid hsmall
    clear hsmall
    go_enter Try.func5, Try.ntmps5
    go_wp2_with (first
      | (go_at_call 12; refine (fold_any _ 0 0 0 [] _ (Row.nil _ _ _ _) rfl (by omega)).mono ?_; rintro e w1 ⟨rfl, rfl⟩)
      | (go_at_call 8; refine (wakes_any _).mono ?_; rintro e w1 ⟨rfl, hb1⟩))
    go_ret
    exact ⟨rfl, hb1⟩
  have hz : ((len0 : Int) == 0) = false := by simp; omega
  by_cases hbig : 2000 < len0
  · go_enter Try.func5, Try.ntmps5
    go_wp2_with (first
      | (go_at_call 12; refine (fold_any _ 0 0 0 [] _ (Row.nil _ _ _ _) rfl (by omega)).mono ?_; rintro e w1 ⟨rfl, rfl⟩)
      | (go_at_call 8; refine (wakes_any _).mono ?_; rintro e w1 ⟨rfl, hb1⟩))
    go_ret
    exact ⟨rfl, hb1⟩
  clear hf0
  obtain ⟨m1, i, hm1, hm2, hm3, hm4, hi⟩ := at_mod a1 len0 (by omega) (by omega)
  obtain ⟨m2, k, hn1, hn2, hn3, hn4, hk⟩ := at_mod a2 len0 (by omega) (by omega)
  obtain ⟨i0, hi0, hz0, hz1, hz2⟩ := info_parts Try.infoU16
  go_enter Try.func5, Try.ntmps5
  go_wp2_with fail
  have q1 : IntKind.i64.wrap (m1 + (len0 : Int)) = m1 + (len0 : Int) := IntWalk.i64_in _ (by omega)
  have q2 : IntKind.i64.wrap (m2 + (len0 : Int)) = m2 + (len0 : Int) := IntWalk.i64_in _ (by omega)
  have q3 : (m1 + (len0 : Int)).tmod (len0 : Int) = (i : Int) := by rw [IntWalk.rem_in _ _ hm4.1]; exact hm4.2
  have q4 : (m2 + (len0 : Int)).tmod (len0 : Int) = (k : Int) := by rw [IntWalk.rem_in _ _ hn4.1]; exact hn4.2
  go_quiet (fail)
  clear q1 q2 q3 q4
  have L0 : Below w.heap.size w (w.drewN nq) := below_dr (Below.refl _ _) nq
  generalize w.drewN nq = W0 at *
  go_wp2_with fail
  refine (fold_any _ _ _ _ ls _ (hr.below L0) HL.out (by omega)).mono ?_
  rintro e w' ⟨rfl, rfl⟩
  go_wp2_with (at_builtin; refine wpList_append_row _ rfl (.tmp 41) (.tmp 42) 23 rfl w.heap.size 24 i0 (.int .u16 0) 2 Try.underlying23 hi0 hz0 hz1 hz2 rfl _ 0 [] rfl (own_built W0 w.heap.size L0.size 24 [] 0 rfl (by unfold maxLen; omega)) .u16 _ _ _ _ ls rfl HL.out (hr.below (L0.alloc L0.size _)) HN.out (by unfold maxLen; omega) (by omega) (by have := L0.size; simp; omega) ?_; intro v1 w3 hown1 hgrow1; simp only [Nat.zero_add, List.nil_append] at hown1; have L1 := (L0.alloc L0.size (.cells #[] 24)).grown hgrow1 (by have := L0.size; simp; omega) (fun j hj => by cases hj; exact L0.size); obtain ⟨g, cp, rfl, hg⟩ := own_form hown1 (by omega))
  clear hgrow1 L0
  have hxi := own_cell hown1 i hi
  have hxk := own_cell hown1 k hk
  have hfi := hown1.frozenAt i
  have hfk := hown1.frozenAt k
  have hi1 : (i : Int) < (len0 : Int) := by omega
  have hk1 : (k : Int) < (len0 : Int) := by omega
  have hs1 := own_store hown1 i (ls[k]?.getD 0)
  have hxk2 := own_cell hs1 k hk
  have hfk2 := hs1.frozenAt k
  go_region
  have hs2 := own_store hs1 k (ls[i]?.getD 0)
  have L2 := ((L1.setCell (p := ⟨g, i, none⟩) hg (.int .u16 (ls[k]?.getD 0))).setCell (p := ⟨g, k, none⟩) hg (.int .u16 (ls[i]?.getD 0))).drew
  have hs3 := hs2.drew
  have hios : In 65535 ((ls.set i (ls[k]?.getD 0)).set k (ls[i]?.getD 0)) := in_set (in_set hin _ _ (getD_in hin (by decide) _)) _ _ (getD_in hin (by decide) _)
  have HT := Lib.hid (tot_swap ls i k (by rw [HL.out]; exact hi) (by rw [HL.out]; exact hk))
  have hol : ((ls.set i (ls[k]?.getD 0)).set k (ls[i]?.getD 0)).length = len0 := by simp [HL.out]
  clear hs1 hs2 hxk2 hfk2 hxi hxk hfi hfk hown1 L1
  generalize (ls.set i (ls[k]?.getD 0)).set k (ls[i]?.getD 0) = os at *
  generalize ((w3.setCell ⟨g, i, none⟩ (.int .u16 (ls[k]?.getD 0))).setCell ⟨g, k, none⟩ (.int .u16 (ls[i]?.getD 0))).drew = W at *
  have HO := Lib.hid hol
  clear hol
  obtain ⟨b, off, rfl, hbB, hcs⟩ := hr.2 (by rw [HL.out]; omega)
  go_wp2
  go_loop [10, 11] (fun s i => ∃ n : Nat, n ≤ len0 ∧ i = .int .i64 n ∧ s = .bool (!nz (ls.take n))) (fun _ i => len0 - (intOf i).toNat)
  case atStart => exact ⟨0, Nat.zero_le _, rfl, rfl⟩
  case round =>
    obtain ⟨n, hn, rfl, rfl⟩ := hrel
    by_cases hlt : n < len0
    · have hx : W.cell? ⟨b, off + n, none⟩ = some (.int .u16 (ls[n]?.getD 0)) := (L2.cell (p := ⟨b, off + n, none⟩) hbB).trans (hcs n (by rw [HL.out]; omega))
      have HK := Lib.hid (show (!nz (ls.take (n + 1))) = (!nz (ls.take n) && ls[n]?.getD 0 == 0) by
        rw [take_snoc ls n (by rw [HL.out]; exact hlt), nz_snoc]
        cases nz (ls.take n) <;> simp [bne])
      generalize nz (ls.take n) = s at *
      clear hcs
      cases s
      · go_wp2
        go_round
        case rel => exact ⟨n + 1, by omega, by go_num, by rw [HK.out]; rfl⟩
        case measure => simp [intOf]; omega
      · go_wp2
        go_round
        case rel => exact ⟨n + 1, by omega, by go_num, by rw [HK.out]; rfl⟩
        case measure => simp [intOf]; omega
    · obtain rfl : n = len0 := by omega
      clear hcs
      have he : ls.take n = ls := List.take_of_length_le (by rw [HL.out]; exact Nat.le_refl _)
      have HE := Lib.hid he
      clear he
      rw [HE.out]
      have hnz := nz_tot hin
      have f1 : (cr (tot os) == cr (tot ls)) = true := by rw [HT.out]; simp
      have ht1 := tot_in (ls.take i) (fun x hx => hin x (List.mem_of_mem_take hx))
      have ht2 := tot_in (ls.drop i) (fun x hx => hin x (List.mem_of_mem_drop hx))
      have hts : tot (ls.take i) + tot (ls.drop i) = tot ls := by rw [← tot_append, List.take_append_drop]
      have f2 : (cr (tot [cr (tot (ls.take i)), cr (tot (ls.drop i))]) == cr (tot ls)) = true := by
        rw [show tot [cr (tot (ls.take i)), cr (tot (ls.drop i))] = cr (tot (ls.take i)) + cr (tot (ls.drop i)) by simp [tot], cr_add ht1.1 ht2.1, hts]
        simp
      have f3 : (cr (tot (os ++ [0])) == cr (tot ls)) = true := by rw [tot_snoc, Int.add_zero, HT.out]; simp
      have hcz := cr_zero (tot ls)
      have f4 : ((cr (tot ls) == 0) == !nz ls) = true := by
        cases hb : nz ls
        · rw [hnz.1 hb]; rfl
        · have := hnz.2 hb
          have : cr (tot ls) ≠ 0 := fun h => by have := hcz.1 h; omega
          simp [this]
      have hc1 := cr_in (tot (ls.take i))
      have hc2 := cr_in (tot (ls.drop i))
      have hw2 : ∀ x ∈ [cr (tot (ls.take i)), cr (tot (ls.drop i))], (Lit.int .u16 x).wf = true := by
        intro x hx
        simp at hx
        rcases hx with rfl | rfl
        · exact wf_u16.2 hc1
        · exact wf_u16.2 hc2
      have HW2 := Lib.hid hw2
      clear hnz ht1 ht2 hts hcz hc1 hc2 hw2
      have hre := hr.below L2.drew
      have HO1 := Lib.hid (show (os ++ [0]).length = n + 1 by simp [HO.out])
      have hse := hs3.drew
      have hci : (i : Int) ≤ (cap0 : Int) := by omega
      have hne1 : ¬ cap0 = i := by omega
      have hne2 : ¬ i = cap0 := by omega
      have hin1 : (i : Int) ≤ (n : Int) := by omega
      have hnc : (n : Int) ≤ (cap0 : Int) := by omega
      clear hm1 hm2 hm3 hm4 hn1 hn2 hn3 hn4 hA hB hk hk1 hz hsmall
      go_wp2_with fail
      go_region_held3 (fun _ => True) (trivial) (first
        | (go_at_call_of 12 (Value.slice (some ⟨g, 0, none⟩) n cp); refine (fold_here _ _ _ os _ ?_ HO.out (by omega)).mono ?_; exact Row.of_own hse (in_wf16 hios); rintro e w1 ⟨rfl, rfl⟩)
        | (go_at_call_of 12 (Value.slice (some ⟨b, off, none⟩) i cap0); refine (fold_any _ _ _ w.heap.size (ls.take i) _ ?_ (by simp [HL.out]; omega) (by omega)).mono ?_; exact hre.take i; rintro e w1 ⟨rfl, rfl⟩)
        | (go_at_call_of 12 (Value.slice (some ⟨b, off + i, none⟩) (n - i) (cap0 - i)); refine (fold_any _ _ _ w.heap.size (ls.drop i) _ ?_ (by simp [HL.out]) (by omega)).mono ?_; exact hre.drop i; rintro e w1 ⟨rfl, rfl⟩)
        | (go_at_call_of 12 (Value.slice (some ⟨W.heap.size, 0, none⟩) 2 2); refine (fold_any _ _ _ (W.heap.size + 1) [cr (tot (ls.take i)), cr (tot (ls.drop i))] _ ?_ rfl (by simp)).mono ?_; exact Row.built .u16 W.drew 24 [cr (tot (ls.take i)), cr (tot (ls.drop i))] HW2.out; rintro e w1 ⟨rfl, rfl⟩)
        | (refine step_append_w _ (by rfl) _ _ _ (by rfl) w.heap.size 24 i0 (.int .u16 0) 2 Try.underlying23 hi0 hz0 hz1 hz2 rfl (.slice (some ⟨g, 0, none⟩) n cp) n (os.map (Value.int .u16)) (by rfl) ((hs3.alloc _).alloc _).drew ⟨W.heap.size + 1, 0, none⟩ 1 1 [.int .u16 0] (by rfl) (by rfl) (second_new W _ _ _) (by simp [Value.oneCell']) (by omega) (by unfold maxLen; omega) (by omega) (by have := L2.size; simp; omega) ?_; intro g' cp' w4 hown4 hgrow4; have hown5 : w4.ownsRow w.heap.size 24 1 (.slice (some ⟨g', 0, none⟩) (n + 1) cp') (n + 1) ((os ++ [0]).map (Value.int .u16)) := (by simpa using hown4); have L4 := (((L2.alloc L2.size _).alloc (by have := L2.size; simp; omega) _).drew).grown hgrow4 (by have := L2.size; simp; omega) (fun j hj => by cases hj; exact hg); clear hown4)
        | (go_at_call 12; refine (fold_here _ _ _ (os ++ [0]) _ ?_ HO1.out (by omega)).mono ?_; exact Row.of_own hown5 (in_wf16 (in_snoc0 hios)); rintro e w1 ⟨rfl, rfl⟩)
        | (go_at_call 8; refine (wakes_any _).mono ?_; rintro e w5 ⟨rfl, m5⟩))
      go_wp2
      go_ret
      exact ⟨rfl, L4.trans (m5.mono L4.size)⟩
end Go.Proofs.Ytkimbpbpopkijaa
