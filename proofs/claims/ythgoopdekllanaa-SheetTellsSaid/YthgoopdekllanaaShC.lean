/- Sheets: the document's Right. -/
import Derived.Test.YthgoopdekllanaaShB
namespace Go.Proofs.Ythgoopdekllanaa
open Go.RowKit Go.Shelf
open SumM


set_option maxRecDepth 100000 in
set_option maxHeartbeats 8000000 in
theorem r11Right_any (ba tv : Int) (sa : Option Addr) (sn sc : Nat) (rs : List SR) (hl : rs.length = sn) (hs : sn ≤ 4000000) (w : World) (h : SRow5 w.heap.size w sa rs) :
    Calls Try.prog 22 #[.agg #[.int .i64 ba, .int .i64 tv, .slice sa sn sc]] w fun e w' => e = .returned (.bool (shOk ba tv rs)) ∧ Below w.heap.size w w' := by
  have HL := Lib.hid hl
  have HR := Lib.hid h
  clear hl h
  have bS := heap_alloc_new w (.cells #[.int .i64 ba, .int .i64 tv, .slice sa sn sc] 29)
  have L0 := Lib.hid ((Below.refl w.heap.size w).alloc (Nat.le_refl _) (.cells #[.int .i64 ba, .int .i64 tv, .slice sa sn sc] 29))
  obtain ⟨q0, q1, q2⟩ := sh_cells _ _ _ _ _ bS
  have bS := Lib.hid bS
  have EX : ∃ t1 t2 b1 b2 m1 n1 n2 : Bool, decide (tv < 0) = t1 ∧ decide ((1099511627776 : Int) < tv) = t2 ∧ decide (ba < -1) = b1 ∧ decide (tv ≤ ba) = b2 ∧ decide ((16 : Int) < sn) = m1 ∧ (ba == -1) = n1 ∧ ((sn : Int) != 16) = n2 ∧
      shOk ba tv rs = (!t1 && !t2 && !b1 && !b2 && !m1 && !(n1 && n2) && rises (-1) rs) := by
    refine ⟨_, _, _, _, _, _, _, rfl, rfl, rfl, rfl, rfl, rfl, rfl, ?_⟩
    unfold shOk
    rw [HL.out]
    refine Bool.iffEq ?_
    have hq : rises (-1) rs = true → sn ≤ 16 := fun h => by have := rises_le h; rw [HL.out] at this; exact this
    simp only [Bool.and_eq_true, Bool.or_eq_true, Bool.not_eq_true', decide_eq_false_iff_not, decide_eq_true_eq, Bool.and_eq_false_iff, beq_eq_false_iff_ne, bne_eq_false_iff_eq, ne_eq]
    constructor
    · rintro ⟨h, h2⟩
      have := hq h2
      exact ⟨by omega, h2⟩
    · rintro ⟨h, h2⟩
      exact ⟨by omega, h2⟩
  obtain ⟨t1, t2, b1, b2, m1, n1, n2, e1, e2, e3, e4, e5, e6, e7, he⟩ := EX
  have HE := Lib.hid he
  clear he
  go_enter Try.func22, Try.ntmps22
  go_upto_region 1 with fail
  generalize w.alloc (.cells #[.int .i64 ba, .int .i64 tv, .slice sa sn sc] 29) = W0 at *
  cases t1
  rotate_left
  · go_wp2
    go_ret
    exact ⟨ret_bool HE.out.symm, L0.out⟩
  cases t2
  rotate_left
  · go_wp2
    go_ret
    exact ⟨ret_bool HE.out.symm, L0.out⟩
  cases b1
  rotate_left
  · go_wp2
    go_ret
    exact ⟨ret_bool HE.out.symm, L0.out⟩
  cases b2
  rotate_left
  · go_wp2
    go_ret
    exact ⟨ret_bool HE.out.symm, L0.out⟩
  cases m1
  rotate_left
  · go_wp2
    go_ret
    exact ⟨ret_bool HE.out.symm, L0.out⟩
  have hn : n1 = false ∨ (n1 = true ∧ n2 = false) ∨ (n1 = true ∧ n2 = true) := by cases n1 <;> cases n2 <;> simp_all
  rcases hn with rfl | ⟨rfl, rfl⟩ | ⟨rfl, rfl⟩
  rotate_right
  · go_wp2
    go_ret
    exact ⟨ret_bool HE.out.symm, L0.out⟩
  all_goals
    have hE : shOk ba tv rs = rises (-1) rs := by rw [HE.out]; simp
    have HE := Lib.hid hE
    clear hE
    go_wp2
    clear e1 e2 e3 e4 e5 e6 e7 q0 q1 q2
    go_loopw [3] (fun i wr => ∃ k : Nat, k ≤ sn ∧ i = .int .i64 k ∧ -1 ≤ lastB rs k ∧ shOk ba tv rs = rises (lastB rs k) (rs.drop k) ∧ wr.heap[w.heap.size]? = some (.cells #[.int .i64 ba, .int .i64 tv, .slice sa sn sc] 29 (0, 0)) ∧ Below w.heap.size w wr) (fun i _ => sn - (intOf i).toNat)
    case atStart => exact ⟨0, Nat.zero_le _, rfl, Int.le_refl _, HE.out, bS.out, L0.out⟩
    case round =>
      obtain ⟨k, hk, rfl, hge, hr, hS, L⟩ := hrel
      have HB := Lib.hid L
      obtain ⟨q0, q1, q2⟩ := sh_cells _ _ _ _ _ hS
      have HS := Lib.hid hS
      clear L hS
      by_cases hlt : k < sn
      · have hku : k < rs.length := by rw [HL.out]; exact hlt
        obtain ⟨b, off, rfl, hb⟩ := sr_addr HR.out (by omega)
        obtain ⟨x0, x1, x2, x3, x4⟩ := sr_at (HR.out.below HB.out) k hku
        rw [rises_drop hku] at hr
        have hN := Lib.hid (lastB_succ rs k)
        have hk0 : (0 : Int) ≤ (k : Int) := by omega
        have hk1 : (k : Int) < (sn : Int) := by omega
        have hP : (decide ((0 : Int) < (k : Int)) = false ∧ lastB rs k = -1) ∨ (decide ((0 : Int) < (k : Int)) = true ∧ 0 < k ∧ wr.cell? ⟨b, off + (k - 1) * 5, none⟩ = some (.int .i64 (lastB rs k))) := by
          by_cases h0 : k = 0
          · exact .inl ⟨by simp [h0], by simp [lastB, h0]⟩
          · refine .inr ⟨by simp; omega, by omega, ?_⟩
            have := (sr_at (HR.out.below HB.out) (k - 1) (by omega)).1
            rw [this]
            unfold lastB
            rw [if_neg h0]
        generalize lastB rs k = l at *
        generalize rs[k]?.getD sr0 = u at *
        obtain ⟨u0, u1, u2, u3, u4⟩ := u
        obtain ⟨p1, e1⟩ : ∃ p1, decide (u0 < 0) = p1 := ⟨_, rfl⟩
        obtain ⟨p2, e2⟩ : ∃ p2, decide ((16 : Int) ≤ u0) = p2 := ⟨_, rfl⟩
        obtain ⟨p3, e3⟩ : ∃ p3, decide (u0 ≤ l) = p3 := ⟨_, rfl⟩
        obtain ⟨g, hg⟩ : ∃ g, rgt u1 u2 u3 u4 = g := ⟨_, rfl⟩
        have KR := Lib.hid (fun W => hg ▸ r9Right_any u1 u2 u3 u4 W)
        have hr2 : shOk ba tv rs = (!p3 && !p2 && g && rises u0 (rs.drop (k + 1))) := by
          rw [hr, ltD l u0, e3, ltD u0 16, e2, ← hg]
          rfl
        have hs0 : p1 = true → p3 = true := fun h => by
          rw [h] at e1
          have := of_decide_eq_true e1
          rw [← e3]
          exact decide_eq_true (by omega)
        have hs1 : p1 = false → -1 ≤ u0 := fun h => by
          rw [h] at e1
          have := of_decide_eq_false e1
          omega
        have hs2 : l = -1 → p1 = false → p3 = false := fun h h2 => by
          rw [h2] at e1
          have := of_decide_eq_false e1
          rw [← e3]
          exact decide_eq_false (by omega)
        have HH := Lib.hid (And.intro hs0 (And.intro hs1 hs2))
        have HRR := Lib.hid hr2
        have hbw : b < wr.heap.size := Nat.lt_of_lt_of_le hb HB.out.size
        clear hr hr2 hg hs0 hs1 hs2 hge
        cases p1
        rotate_left
        · go_wp2
          go_ret
          exact ⟨ret_bool (by rw [HRR.out, HH.out.1 trivial]; rfl), HB.out⟩
        cases p2
        rotate_left
        · go_wp2
          go_ret
          exact ⟨ret_bool (by rw [HRR.out]; simp), HB.out⟩
        have CF := Lib.hid (fun W (g : Below wr.heap.size wr W) => (g.block _ (Array.getElem?_eq_some_iff.1 HS.out).1).trans HS.out)
        rcases hP with ⟨hp, rfl⟩ | ⟨hp, hp0, hc⟩
        · have hpn : decide (0 < k) = false := by have := of_decide_eq_false hp; exact decide_eq_false (by omega)
          obtain rfl := HH.out.2.2 rfl (by first | rfl | trivial)
          cases g
          · go_wp2_with (go_at_call 55; (with_reducible refine (KR.out _).mono ?_); rintro e w1 ⟨rfl, m1⟩)
            go_ret
            exact ⟨ret_bool (by rw [HRR.out]; rfl), HB.out.trans (m1.mono HB.out.size)⟩
          · go_wp2_with (go_at_call 55; (with_reducible refine (KR.out _).mono ?_); rintro e w1 ⟨rfl, m1⟩)
            go_roundw
            case rel => exact ⟨k + 1, by omega, by go_num, by rw [hN.out]; exact HH.out.2.1 trivial, by rw [HRR.out, hN.out]; rfl, CF.out _ m1, HB.out.trans (m1.mono HB.out.size)⟩
            case measure => simp [intOf]; omega
        · have hpn : decide (0 < k) = true := decide_eq_true hp0
          cases p3
          rotate_left
          · go_wp2
            go_ret
            exact ⟨ret_bool (by rw [HRR.out]; rfl), HB.out⟩
          cases g
          · go_wp2_with (go_at_call 55; (with_reducible refine (KR.out _).mono ?_); rintro e w1 ⟨rfl, m1⟩)
            go_ret
            exact ⟨ret_bool (by rw [HRR.out]; rfl), HB.out.trans (m1.mono HB.out.size)⟩
          · go_wp2_with (go_at_call 55; (with_reducible refine (KR.out _).mono ?_); rintro e w1 ⟨rfl, m1⟩)
            go_roundw
            case rel => exact ⟨k + 1, by omega, by go_num, by rw [hN.out]; exact HH.out.2.1 trivial, by rw [HRR.out, hN.out]; rfl, CF.out _ m1, HB.out.trans (m1.mono HB.out.size)⟩
            case measure => simp [intOf]; omega
      · obtain rfl : k = sn := by omega
        have hr2 : shOk ba tv rs = true := by
          rw [hr, show rs.drop k = [] from List.drop_eq_nil_of_le (by rw [HL.out]; exact Nat.le_refl _)]
          rfl
        have HRR := Lib.hid hr2
        clear hr hr2
        go_wp2
        go_ret
        exact ⟨ret_bool HRR.out.symm, HB.out⟩

end Go.Proofs.Ythgoopdekllanaa
