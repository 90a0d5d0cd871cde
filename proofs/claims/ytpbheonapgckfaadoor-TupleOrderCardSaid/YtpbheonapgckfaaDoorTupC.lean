/- The document's own answers on tuples: Cmp, Less. -/
import Derived.Test.YtpbheonapgckfaaDoorTupB
namespace Go.Proofs.YtpbheonapgckfaaDoor
open Go.RowKit Go.Shelf
open SumM

theorem below_drn {B : Nat} {a w : World} (h : Below B a w) (n : Nat) : Below B a (w.drewN n) := ⟨h.os, h.tape, h.output, h.size, h.block⟩
/-- The order of lists of numbers, of one length. -/
def cmpL : List Int → List Int → Int
  | x :: r, y :: t => if x < y then -1 else if y < x then 1 else cmpL r t
  | _, _ => 0
theorem cmpL_in (a b : List Int) : cmpL a b = -1 ∨ cmpL a b = 0 ∨ cmpL a b = 1 := by
  induction a generalizing b with
  | nil => simp [cmpL]
  | cons x r ih =>
    cases b with
    | nil => simp [cmpL]
    | cons y t =>
      simp only [cmpL]
      split
      · simp
      split
      · simp
      · exact ih t
/-- Where the first k are the same the order is that of the rest. -/
theorem cmpL_drop (a b : List Int) (k : Nat) (hl : a.length = b.length) (h : ∀ j, j < k → a[j]?.getD 0 = b[j]?.getD 0) : cmpL a b = cmpL (a.drop k) (b.drop k) := by
  induction k generalizing a b with
  | zero => rfl
  | succ k ih =>
    cases a with
    | nil =>
      cases b with
      | nil => rfl
      | cons y t => simp at hl
    | cons x r =>
      cases b with
      | nil => simp at hl
      | cons y t =>
        have h0 : x = y := by simpa using h 0 (by omega)
        subst h0
        simp only [cmpL, List.drop_succ_cons]
        rw [if_neg (by omega), if_neg (by omega)]
        exact ih r t (by simpa using hl) (fun j hj => by simpa using h (j + 1) (by omega))
theorem cmpL_at (a b : List Int) (k : Nat) (ha : k < a.length) (hl : a.length = b.length) (h : ∀ j, j < k → a[j]?.getD 0 = b[j]?.getD 0) :
    (a[k]?.getD 0 < b[k]?.getD 0 → cmpL a b = -1) ∧ (b[k]?.getD 0 < a[k]?.getD 0 → cmpL a b = 1) := by
  have e := cmpL_drop a b k hl h
  have ea : a.drop k = a[k]?.getD 0 :: a.drop (k + 1) := by
    rw [List.getElem?_eq_getElem ha]
    exact List.drop_eq_getElem_cons ha
  have hb : k < b.length := by omega
  have eb : b.drop k = b[k]?.getD 0 :: b.drop (k + 1) := by
    rw [List.getElem?_eq_getElem hb]
    exact List.drop_eq_getElem_cons hb
  rw [e, ea, eb]
  refine ⟨fun hx => ?_, fun hx => ?_⟩
  · simp only [cmpL]
    rw [if_pos hx]
  · simp only [cmpL]
    rw [if_neg (by omega), if_pos hx]
theorem cmpL_same (a b : List Int) (hl : a.length = b.length) (h : ∀ j, j < a.length → a[j]?.getD 0 = b[j]?.getD 0) : cmpL a b = 0 := by
  rw [cmpL_drop a b a.length hl h]
  simp [cmpL]
/-- The order of two tuples. -/
def cmpU (ts td tp tq : Int) (ts' td' tp' tq' : Int) : Int := cmpL (tupB ts td tp tq) (tupB ts' td' tp' tq')

set_option maxRecDepth 100000 in
set_option maxHeartbeats 4000000 in
theorem r4Cmp_any (ts td tp tq : Int) (ts' td' tp' tq' : Int) (H : UNums ts td tp tq) (H' : UNums ts' td' tp' tq') (w : World) :
    Calls Tryd.prog 14 #[.agg #[.int .u32 ts, .int .u32 td, .int .u16 tp, .int .u16 tq], .agg #[.int .u32 ts', .int .u32 td', .int .u16 tp', .int .u16 tq']] w fun e w' => e = .returned (.int .i64 (cmpU ts td tp tq ts' td' tp' tq')) ∧ Below w.heap.size w w' := by
  have bO := heap_alloc_new (w.alloc (.cells #[.int .u32 ts, .int .u32 td, .int .u16 tp, .int .u16 tq] 25)) (.cells #[.int .u32 ts', .int .u32 td', .int .u16 tp', .int .u16 tq'] 25)
  rw [World.size_alloc] at bO
  have bH := (Below.heap_alloc (w.alloc (.cells #[.int .u32 ts, .int .u32 td, .int .u16 tp, .int .u16 tq] 25)) (.cells #[.int .u32 ts', .int .u32 td', .int .u16 tp', .int .u16 tq'] 25) w.heap.size (by simp)).trans (heap_alloc_new w (.cells #[.int .u32 ts, .int .u32 td, .int .u16 tp, .int .u16 tq] 25))
  have L0 := ((Below.refl w.heap.size w).alloc (Nat.le_refl _) (.cells #[.int .u32 ts, .int .u32 td, .int .u16 tp, .int .u16 tq] 25)).alloc (by simp) (.cells #[.int .u32 ts', .int .u32 td', .int .u16 tp', .int .u16 tq'] 25)
  have HH := Lib.hid H
  have HH' := Lib.hid H'
  clear H H'
  obtain ⟨q0, q1, q2, q3⟩ := tup_cells _ _ _ _ bH
  obtain ⟨z0, z1, z2, z3⟩ := tup_cells _ _ _ _ bO
  go_enter Tryd.func14, Tryd.ntmps14
  go_upto_region 1 with (fail)
  generalize (w.alloc (.cells #[.int .u32 ts, .int .u32 td, .int .u16 tp, .int .u16 tq] 25)).alloc (.cells #[.int .u32 ts', .int .u32 td', .int .u16 tp', .int .u16 tq'] 25) = W0 at *
  have CS := Lib.hid (fun W (m : Below W0.heap.size W0 W) => And.intro (tup_cells _ _ _ _ ((m.block _ (Array.getElem?_eq_some_iff.1 bH).1).trans bH)) (tup_cells _ _ _ _ ((m.block _ (Array.getElem?_eq_some_iff.1 bO).1).trans bO)))
  have CT := Lib.hid (fun W (m : Below W0.heap.size W0 W) => show W.cell? ⟨w.heap.size, 0, none⟩ = some (.int .u32 ts) ∧ W.cell? ⟨w.heap.size, 1, none⟩ = some (.int .u32 td) ∧ W.cell? ⟨w.heap.size, 2, none⟩ = some (.int .u16 tp) ∧ W.cell? ⟨w.heap.size, 3, none⟩ = some (.int .u16 tq) ∧ W.cell? ⟨w.heap.size + 1, 0, none⟩ = some (.int .u32 ts') ∧ W.cell? ⟨w.heap.size + 1, 1, none⟩ = some (.int .u32 td') ∧ W.cell? ⟨w.heap.size + 1, 2, none⟩ = some (.int .u16 tp') ∧ W.cell? ⟨w.heap.size + 1, 3, none⟩ = some (.int .u16 tq') from
    ⟨(CS.out W m).1.1, (CS.out W m).1.2.1, (CS.out W m).1.2.2.1, (CS.out W m).1.2.2.2, (CS.out W m).2.1, (CS.out W m).2.2.1, (CS.out W m).2.2.2.1, (CS.out W m).2.2.2.2⟩)
  have n0 := (Below.refl W0.heap.size W0).drew
  clear bH bO q0 q1 q2 q3 z0 z1 z2 z3 CS
  go_region_held3 (fun W => W.cell? ⟨w.heap.size, 0, none⟩ = some (.int .u32 ts) ∧ W.cell? ⟨w.heap.size, 1, none⟩ = some (.int .u32 td) ∧ W.cell? ⟨w.heap.size, 2, none⟩ = some (.int .u16 tp) ∧ W.cell? ⟨w.heap.size, 3, none⟩ = some (.int .u16 tq) ∧ W.cell? ⟨w.heap.size + 1, 0, none⟩ = some (.int .u32 ts') ∧ W.cell? ⟨w.heap.size + 1, 1, none⟩ = some (.int .u32 td') ∧ W.cell? ⟨w.heap.size + 1, 2, none⟩ = some (.int .u16 tp') ∧ W.cell? ⟨w.heap.size + 1, 3, none⟩ = some (.int .u16 tq'))
    (first | with_reducible exact CT.out _ n2 | with_reducible exact CT.out _ n1 | with_reducible exact CT.out _ n0)
    (first
      | (go_at_call 12; (with_reducible refine (r4Bytes_any ts td tp tq HH.out W0.drew).mono ?_); rintro e w1 ⟨A1, c1, rfl, O1, k1⟩; have n1 := n0.trans (k1.mono n0.size))
      | (go_at_call 12; (with_reducible refine (r4Bytes_any ts' td' tp' tq' HH'.out w1).mono ?_); rintro e w2 ⟨A2, c2, rfl, O2, k2⟩; have n2 := n1.trans (k2.mono n1.size); have P1 := own_below O1 k2))
  obtain ⟨g1, rfl, _, _⟩ := own_addr P1 (by decide)
  obtain ⟨g2, rfl, _, _⟩ := own_addr O2 (by decide)
  have L2 := L0.trans (n2.mono L0.size)
  have X1 := Lib.hid (fun j (hj : j < 12) => own_cell P1 j hj)
  have X2 := Lib.hid (fun j (hj : j < 12) => own_cell O2 j hj)
  have I1 := tupB_in ts td tp tq
  have I2 := tupB_in ts' td' tp' tq'
  have E : Hid (cmpU ts td tp tq ts' td' tp' tq' = cmpL (tupB ts td tp tq) (tupB ts' td' tp' tq')) := Lib.hid rfl
  have l1 : Hid ((tupB ts td tp tq).length = 12) := Lib.hid rfl
  have l2 : Hid ((tupB ts' td' tp' tq').length = 12) := Lib.hid rfl
  generalize tupB ts td tp tq = xs at *
  generalize tupB ts' td' tp' tq' = ys at *
  clear P1 O2 O1 k1 k2 n0 n1 n2 CT
  go_wp2
  go_loopw [7] (fun i wr => ∃ k : Nat, k ≤ 12 ∧ i = .int .i64 k ∧ (∀ j, j < k → xs[j]?.getD 0 = ys[j]?.getD 0) ∧ ∃ n, wr = w2.drewN n) (fun i _ => 12 - (intOf i).toNat)
  case atStart => exact ⟨0, by omega, rfl, fun j hj => by omega, 0, rfl⟩
  case round =>
    obtain ⟨k, hk, rfl, hsame, n, rfl⟩ := hrel
    by_cases hlt : k < 12
    · have hx := X1.out k hlt
      have hy := X2.out k hlt
      have cc := Lib.hid (cmpL_at xs ys k (by rw [l1.out]; exact hlt) (by rw [l1.out, l2.out]) hsame)
      have HS := Lib.hid hsame
      clear hsame
      generalize hxa : xs[k]?.getD 0 = xa at *
      generalize hya : ys[k]?.getD 0 = ya at *
      have hk0 : (0 : Int) ≤ (k : Int) := by omega
      have hk12 : (k : Int) < 12 := by omega
      have ix : (k : Int) < ((12 : Nat) : Int) := by omega
      obtain hc | hc | hc : xa < ya ∨ ya < xa ∨ xa = ya := by omega
      · have p1 : decide (xa < ya) = true := decide_eq_true hc
        have HC := Lib.hid hc
        clear hc hk hlt hxa hya
        go_wp2
        go_quiet (fail)
        go_wp2
        go_ret
        exact ⟨ret_int ((E.out.trans (cc.out.1 HC.out))).symm, below_drn (below_drn L2 _) _⟩
      · have p1 : decide (xa < ya) = false := decide_eq_false (by omega)
        have p2 : decide (ya < xa) = true := decide_eq_true hc
        have HC := Lib.hid hc
        clear hc hk hlt hxa hya
        go_wp2
        go_quiet (fail)
        go_wp2
        go_quiet (fail)
        go_wp2
        go_ret
        exact ⟨ret_int ((E.out.trans (cc.out.2 HC.out))).symm, below_drn (below_drn (below_drn L2 _) _) _⟩
      · have p1 : decide (xa < ya) = false := decide_eq_false (by omega)
        have p2 : decide (ya < xa) = false := decide_eq_false (by omega)
        have HC := Lib.hid hc
        have HK := Lib.hid hlt
        have HX := Lib.hid hxa
        have HY := Lib.hid hya
        clear hc hk hlt hxa hya
        go_wp2
        go_quiet (fail)
        go_wp2
        go_quiet (fail)
        go_wp2
        go_roundw
        case rel =>
          refine ⟨k + 1, HK.out, by go_num, fun j hj => ?_, _, rfl⟩
          by_cases hj2 : j < k
          · exact HS.out j hj2
          · have hjk : j = k := by omega
            rw [hjk, HX.out, HY.out, HC.out]
        case measure =>
          have := HK.out
          simp [intOf]
          omega
    · obtain rfl : k = 12 := by omega
      have hz := cmpL_same xs ys (by rw [l1.out, l2.out]) (fun j hj => hsame j (by rw [l1.out] at hj; exact hj))
      have HZ := Lib.hid hz
      clear hsame hz
      go_wp2
      go_ret
      exact ⟨ret_int (E.out.trans HZ.out).symm, below_drn L2 n⟩

set_option maxRecDepth 100000 in
set_option maxHeartbeats 1000000 in
theorem r4Less_any (ts td tp tq : Int) (ts' td' tp' tq' : Int) (H : UNums ts td tp tq) (H' : UNums ts' td' tp' tq') (w : World) :
    Calls Tryd.prog 16 #[.agg #[.int .u32 ts, .int .u32 td, .int .u16 tp, .int .u16 tq], .agg #[.int .u32 ts', .int .u32 td', .int .u16 tp', .int .u16 tq']] w fun e w' => e = .returned (.bool (decide (cmpU ts td tp tq ts' td' tp' tq' < 0))) ∧ Below w.heap.size w w' := by
  have L0 := ((Below.refl w.heap.size w).alloc (Nat.le_refl _) (.cells #[.int .u32 ts, .int .u32 td, .int .u16 tp, .int .u16 tq] 25)).alloc (by simp) (.cells #[.int .u32 ts', .int .u32 td', .int .u16 tp', .int .u16 tq'] 25)
  have bO := heap_alloc_new (w.alloc (.cells #[.int .u32 ts, .int .u32 td, .int .u16 tp, .int .u16 tq] 25)) (.cells #[.int .u32 ts', .int .u32 td', .int .u16 tp', .int .u16 tq'] 25)
  rw [World.size_alloc] at bO
  have bH := (Below.heap_alloc (w.alloc (.cells #[.int .u32 ts, .int .u32 td, .int .u16 tp, .int .u16 tq] 25)) (.cells #[.int .u32 ts', .int .u32 td', .int .u16 tp', .int .u16 tq'] 25) w.heap.size (by simp)).trans (heap_alloc_new w (.cells #[.int .u32 ts, .int .u32 td, .int .u16 tp, .int .u16 tq] 25))
  have HH := Lib.hid H
  have HH' := Lib.hid H'
  clear H H'
  obtain ⟨q0, q1, q2, q3⟩ := tup_cells _ _ _ _ bH
  obtain ⟨z0, z1, z2, z3⟩ := tup_cells _ _ _ _ bO
  go_enter Tryd.func16, Tryd.ntmps16
  go_upto_region 1 with (fail)
  generalize (w.alloc (.cells #[.int .u32 ts, .int .u32 td, .int .u16 tp, .int .u16 tq] 25)).alloc (.cells #[.int .u32 ts', .int .u32 td', .int .u16 tp', .int .u16 tq'] 25) = W0 at *
  clear bH bO
  have K := Lib.hid (r4Cmp_any ts td tp tq ts' td' tp' tq' HH.out HH'.out W0)
  obtain ⟨cu, hcu⟩ : ∃ c, cmpU ts td tp tq ts' td' tp' tq' = c := ⟨_, rfl⟩
  have HC := Lib.hid hcu
  rw [hcu] at K
  clear hcu
  go_wp2_with (first | (go_at_call 14; (with_reducible refine K.out.mono ?_); rintro e w1 ⟨rfl, m1⟩))
  go_ret
  exact ⟨by rw [HC.out]; rfl, L0.trans (m1.mono L0.size)⟩
end Go.Proofs.YtpbheonapgckfaaDoor
