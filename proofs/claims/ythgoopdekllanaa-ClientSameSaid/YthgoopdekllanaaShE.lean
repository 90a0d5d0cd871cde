/- Sheets: the same, by the document. -/
import Derived.Test.YthgoopdekllanaaShA
namespace Go.Proofs.Ythgoopdekllanaa
open Go.RowKit Go.Shelf
open SumM

/-- Are two rows the same. -/
def eqR (rb ec ep eg et : Int) (rb' ec' ep' eg' et' : Int) : Bool := decide (rb = rb' ∧ ec = ec' ∧ ep = ep' ∧ eg = eg' ∧ et = et')
theorem eqR_iff (rb ec ep eg et : Int) (rb' ec' ep' eg' et' : Int) : eqR rb ec ep eg et rb' ec' ep' eg' et' = true ↔ ((rb, ec, ep, eg, et) : SR) = (rb', ec', ep', eg', et') := by simp [eqR]
set_option maxRecDepth 100000 in
theorem run_eqR (rb ec ep eg et : Int) (rb' ec' ep' eg' et' : Int) (W : World) : (Go.binOp .eql 63 (.agg #[.int .i64 rb, .int .i64 ec, .int .i64 ep, .int .i64 eg, .int .i64 et]) (.agg #[.int .i64 rb', .int .i64 ec', .int .i64 ep', .int .i64 eg', .int .i64 et'])).run Try.prog W = .ok (.bool (eqR rb ec ep eg et rb' ec' ep' eg' et')) W := by
  have hcase : (rb = rb' ∧ ec = ec' ∧ ep = ep' ∧ eg = eg' ∧ et = et') ∨ (rb = rb' ∧ ec = ec' ∧ ep = ep' ∧ eg = eg' ∧ et ≠ et') ∨ (rb = rb' ∧ ec = ec' ∧ ep = ep' ∧ eg ≠ eg') ∨ (rb = rb' ∧ ec = ec' ∧ ep ≠ ep') ∨ (rb = rb' ∧ ec ≠ ec') ∨ rb ≠ rb' := by omega
  rcases hcase with ⟨rfl, rfl, rfl, rfl, rfl⟩ | ⟨rfl, rfl, rfl, rfl, e⟩ | ⟨rfl, rfl, rfl, e⟩ | ⟨rfl, rfl, e⟩ | ⟨rfl, e⟩ | e
  · rw [show eqR rb ec ep eg et rb ec ep eg et = true from decide_eq_true ⟨rfl, rfl, rfl, rfl, rfl⟩]
    go_simp
  all_goals
    rw [show eqR _ _ _ _ _ _ _ _ _ _ = false from decide_eq_false (by simp [e])]
    go_simp
set_option maxRecDepth 100000 in
theorem run_neR (rb ec ep eg et : Int) (rb' ec' ep' eg' et' : Int) (W : World) : (Go.binOp .neq 63 (.agg #[.int .i64 rb, .int .i64 ec, .int .i64 ep, .int .i64 eg, .int .i64 et]) (.agg #[.int .i64 rb', .int .i64 ec', .int .i64 ep', .int .i64 eg', .int .i64 et'])).run Try.prog W = .ok (.bool (!(eqR rb ec ep eg et rb' ec' ep' eg' et'))) W := by
  have h := run_eqR rb ec ep eg et rb' ec' ep' eg' et' W
  rw [run_eql_struct] at h
  rw [run_neq_struct]
  generalize (Op.equalIn 10000 63 (.agg #[.int .i64 rb, .int .i64 ec, .int .i64 ep, .int .i64 eg, .int .i64 et]) (.agg #[.int .i64 rb', .int .i64 ec', .int .i64 ep', .int .i64 eg', .int .i64 et'])).run Try.prog W = r at *
  cases r with
  | ok b w' =>
    simp only [Result.andThen_ok, Result.ok.injEq, Value.bool.injEq] at h ⊢
    exact ⟨by rw [h.1], h.2⟩
  | halt x w' => simp [Result.andThen] at h

theorem below_dN {B : Nat} {a w : World} (h : Below B a w) (n : Nat) : Below B a (w.drewN n) := ⟨h.os, h.tape, h.output, h.size, h.block⟩
/-- Are two sheets the same. -/
def smS (ba tv : Int) (rs : List SR) (ba' tv' : Int) (rs' : List SR) : Bool := decide (ba = ba' ∧ tv = tv' ∧ rs = rs')

set_option maxRecDepth 100000 in
set_option maxHeartbeats 4000000 in
theorem r11Same_any (ba tv : Int) (sa : Option Addr) (sn sc : Nat) (ba' tv' : Int) (sa' : Option Addr) (sn' sc' : Nat) (rs rs' : List SR) (hl : rs.length = sn) (hs : sn ≤ 4000000) (hl' : rs'.length = sn') (hs' : sn' ≤ 4000000) (w : World) (h : SRow5 w.heap.size w sa rs) (h' : SRow5 w.heap.size w sa' rs') :
    Calls Try.prog 19 #[.agg #[.int .i64 ba, .int .i64 tv, .slice sa sn sc], .agg #[.int .i64 ba', .int .i64 tv', .slice sa' sn' sc']] w fun e w' => e = .returned (.bool (smS ba tv rs ba' tv' rs')) ∧ Below w.heap.size w w' := by
  have HL := Lib.hid hl
  have HL' := Lib.hid hl'
  have HR := Lib.hid h
  have HR' := Lib.hid h'
  clear hl h hl' h'
  have bS := blkN (heap_alloc_new w (.cells #[.int .i64 ba, .int .i64 tv, .slice sa sn sc] 29)) (.cells #[.int .i64 ba', .int .i64 tv', .slice sa' sn' sc'] 29)
  have bS' := newN (w.alloc (.cells #[.int .i64 ba, .int .i64 tv, .slice sa sn sc] 29)) (.cells #[.int .i64 ba', .int .i64 tv', .slice sa' sn' sc'] 29) (w.heap.size + 1) (by simp)
  have L0 := Lib.hid (((Below.refl w.heap.size w).alloc (Nat.le_refl _) (.cells #[.int .i64 ba, .int .i64 tv, .slice sa sn sc] 29)).alloc (by simp) (.cells #[.int .i64 ba', .int .i64 tv', .slice sa' sn' sc'] 29))
  obtain ⟨q0, q1, q2⟩ := sh_cells _ _ _ _ _ bS
  obtain ⟨q0', q1', q2'⟩ := sh_cells _ _ _ _ _ bS'
  obtain ⟨e1, h1⟩ : ∃ e1, (ba == ba') = e1 := ⟨_, rfl⟩
  obtain ⟨e2, h2⟩ : ∃ e2, (tv == tv') = e2 := ⟨_, rfl⟩
  obtain ⟨e3, h3⟩ : ∃ e3, ((sn : Int) == (sn' : Int)) = e3 := ⟨_, rfl⟩
  have g1 : (ba != ba') = !e1 := by rw [← h1]; rfl
  have g2 : (tv != tv') = !e2 := by rw [← h2]; rfl
  have g3 : ((sn : Int) != (sn' : Int)) = !e3 := by rw [← h3]; rfl
  have HE := Lib.hid (show smS ba tv rs ba' tv' rs' = (e1 && e2 && e3 && decide (rs = rs')) by
    refine Bool.iffEq ?_
    have : rs = rs' → sn = sn' := fun e => by rw [← HL.out, ← HL'.out, e]
    simp only [smS, decide_eq_true_eq, Bool.and_eq_true, ← h1, ← h2, ← h3, beq_iff_eq]
    constructor
    · rintro ⟨a, b, c⟩
      exact ⟨⟨⟨a, b⟩, by rw [this c]⟩, c⟩
    · rintro ⟨⟨⟨a, b⟩, _⟩, c⟩
      exact ⟨a, b, c⟩)
  have B1 := Lib.hid bS
  have B2 := Lib.hid bS'
  clear h1 h2 h3 bS bS'
  go_enter Try.func19, Try.ntmps19
  go_upto_region 1 with fail
  generalize (w.alloc (.cells #[.int .i64 ba, .int .i64 tv, .slice sa sn sc] 29)).alloc (.cells #[.int .i64 ba', .int .i64 tv', .slice sa' sn' sc'] 29) = W0 at *
  cases e1
  · go_wp2
    go_ret
    exact ⟨ret_bool HE.out.symm, L0.out⟩
  cases e2
  · go_wp2
    go_ret
    exact ⟨ret_bool HE.out.symm, L0.out⟩
  cases e3
  · go_wp2
    go_ret
    exact ⟨ret_bool HE.out.symm, L0.out⟩
  have hE : smS ba tv rs ba' tv' rs' = decide (rs = rs') := by rw [HE.out]; simp
  have HE := Lib.hid hE
  have hn : sn = sn' := by simp at g3; omega
  subst hn
  have g3 : ((sn : Int) != (sn : Int)) = false := by simp
  clear hE
  go_wp2
  clear g1 g2 g3 q0 q1 q2 q0' q1' q2'
  go_loopw [5] (fun i wr => ∃ k : Nat, k ≤ sn ∧ i = .int .i64 k ∧ (∀ j, j < k → rs[j]?.getD sr0 = rs'[j]?.getD sr0) ∧ wr.heap[w.heap.size]? = some (.cells #[.int .i64 ba, .int .i64 tv, .slice sa sn sc] 29 (0, 0)) ∧ wr.heap[w.heap.size + 1]? = some (.cells #[.int .i64 ba', .int .i64 tv', .slice sa' sn sc'] 29 (0, 0)) ∧ Below w.heap.size w wr) (fun i _ => sn - (intOf i).toNat)
  case atStart => exact ⟨0, Nat.zero_le _, rfl, fun j h => absurd h (by omega), B1.out, B2.out, L0.out⟩
  case round =>
    obtain ⟨k, hk, rfl, hs, hS, hS', L⟩ := hrel
    have HA := Lib.hid hs
    have HB := Lib.hid L
    obtain ⟨q0, q1, q2⟩ := sh_cells _ _ _ _ _ hS
    obtain ⟨q0', q1', q2'⟩ := sh_cells _ _ _ _ _ hS'
    have HS := Lib.hid hS
    have HS' := Lib.hid hS'
    clear L hS hS' hs
    by_cases hlt : k < sn
    · have hku : k < rs.length := by rw [HL.out]; exact hlt
      have hku' : k < rs'.length := by rw [HL'.out]; exact hlt
      obtain ⟨b, off, rfl, hb⟩ := sr_addr HR.out (by omega)
      obtain ⟨b', off', rfl, hb'⟩ := sr_addr HR'.out (by omega)
      obtain ⟨x0, x1, x2, x3, x4⟩ := sr_at (HR.out.below HB.out) k hku
      obtain ⟨y0, y1, y2, y3, y4⟩ := sr_at (HR'.out.below HB.out) k hku'
      have hk0 : (0 : Int) ≤ (k : Int) := by omega
      have hk1 : (k : Int) < (sn : Int) := by omega
      have HX := Lib.hid (show rs[k]?.getD sr0 ≠ rs'[k]?.getD sr0 → rs ≠ rs' from fun h e => h (by rw [e]))
      have HY := Lib.hid (show rs[k]?.getD sr0 = rs'[k]?.getD sr0 → ∀ j, j < k + 1 → rs[j]?.getD sr0 = rs'[j]?.getD sr0 from fun h j hj => by
        rcases Nat.lt_or_ge j k with h1 | h1
        · exact HA.out j h1
        · obtain rfl : j = k := by omega
          exact h)
      generalize rs[k]?.getD sr0 = u at *
      generalize rs'[k]?.getD sr0 = v at *
      obtain ⟨u0, u1, u2, u3, u4⟩ := u
      obtain ⟨v0, v1, v2, v3, v4⟩ := v
      obtain ⟨r, hr⟩ : ∃ r, eqR u0 u1 u2 u3 u4 v0 v1 v2 v3 v4 = r := ⟨_, rfl⟩
      have key := fun W => hr ▸ run_neR u0 u1 u2 u3 u4 v0 v1 v2 v3 v4 W
      have HQ := Lib.hid (show (r = true ↔ ((u0, u1, u2, u3, u4) : SR) = (v0, v1, v2, v3, v4)) by rw [← hr]; exact eqR_iff ..)
      clear hr
      cases r
      · simp only [Bool.not_false] at key
        go_wp2
        go_quiet (fail)
        go_wp2
        go_ret
        exact ⟨ret_bool (by rw [HE.out]; exact (decide_eq_false (HX.out (fun e => by have := HQ.out.2 e; cases this))).symm), below_dN HB.out _⟩
      · simp only [Bool.not_true] at key
        go_wp2
        go_quiet (fail)
        go_wp2
        go_roundw
        case rel => exact ⟨k + 1, by omega, by go_num, HY.out (HQ.out.1 trivial), HS.out, HS'.out, below_dN HB.out _⟩
        case measure => simp [intOf]; omega
    · obtain rfl : k = sn := by omega
      have hall : rs = rs' := by
        apply List.ext_getElem?
        intro j
        rcases Nat.lt_or_ge j k with h1 | h1
        · have := HA.out j h1
          rw [List.getElem?_eq_getElem (by rw [HL.out]; exact h1), List.getElem?_eq_getElem (by rw [HL'.out]; exact h1)] at this ⊢
          simpa using this
        · rw [List.getElem?_eq_none (by rw [HL.out]; exact h1), List.getElem?_eq_none (by rw [HL'.out]; exact h1)]
      have HH := Lib.hid hall
      clear hall
      go_wp2
      go_ret
      exact ⟨ret_bool (by rw [HE.out]; exact (decide_eq_true HH.out).symm), HB.out⟩
end Go.Proofs.Ythgoopdekllanaa
