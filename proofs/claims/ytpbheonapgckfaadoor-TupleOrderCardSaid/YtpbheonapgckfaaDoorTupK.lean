/- Package tuple: numbersOf and the closure that it hands back; Less; Cmp. -/
import Derived.Test.YtpbheonapgckfaaDoorTupJ
import Derived.Test.YtpbheonapgckfaaDoorRange
namespace Go.Proofs.YtpbheonapgckfaaDoor
open Go.RowKit Go.Shelf
open SumM

attribute [local go_sem] Oper.semAt_some

/-- Two numbers. -/
abbrev PN := { x : Int × Int // (0 ≤ x.1 ∧ x.1 ≤ 4294967295) ∧ 0 ≤ x.2 ∧ x.2 ≤ 4294967295 }
/-- The numbers of two tuples, two and two. -/
def pairsU (ts td tp tq ts' td' tp' tq' : Int) : List (Int × Int) := [(ts, ts'), (td, td'), (tp, tp'), (tq, tq')]

set_option maxHeartbeats 1000000 in
theorem numbersOf_in (n : Nat) (ts td tp tq : Int) (ts' td' tp' tq' : Int) (w : World) :
    CallsIn Fence.wide n Tryd.prog 30 #[.agg #[.int .u32 ts, .int .u32 td, .int .u16 tp, .int .u16 tq], .agg #[.int .u32 ts', .int .u32 td', .int .u16 tp', .int .u16 tq']] w fun e w' => e = .returned (.func (.func 36) #[] #[.pointer (some ⟨w.heap.size, 0, none⟩), .pointer (some ⟨w.heap.size + 1, 0, none⟩)]) ∧ w' = (w.alloc (.cells #[.int .u32 ts, .int .u32 td, .int .u16 tp, .int .u16 tq] 25)).alloc (.cells #[.int .u32 ts', .int .u32 td', .int .u16 tp', .int .u16 tq'] 25) := by
  refine callsIn_of_wp Tryd.func30 rfl trivial ?_ rfl
  simp only [Tryd.ntmps30, List.size_toArray, List.length_cons, List.length_nil, Nat.reduceAdd, Nat.reduceSub, Array.replicate_succ, Array.replicate_zero, List.push_toArray, List.append_toArray, List.nil_append, List.cons_append]
  gi_wp2
  go_ret
  exact ⟨rfl, rfl⟩

set_option maxRecDepth 100000 in
set_option maxHeartbeats 4000000 in
theorem numsIter_in (ts td tp tq : Int) (ts' td' tp' tq' : Int) (n : Nat) (hn : 1 ≤ n) (l Ba Bb n₀ : Nat) (H : UNums ts td tp tq) (H' : UNums ts' td' tp' tq')
    (J Jx : List PN → World → Prop) (W : World)
    (hY : ∀ pre x W, J pre W → pre.length < 4 → YieldAt Fence.wide (n - 1) Tryd.prog l #[.int .u32 x.1.1, .int .u32 x.1.2] W fun e W' =>
      (e = .returned (.bool true) ∧ J (pre ++ [x]) W' ∧ KeepT n₀ [25] W W') ∨ (e = .returned (.bool false) ∧ Jx (pre ++ [x]) W'))
    (hA : W.heap[Ba]? = some (.cells #[.int .u32 ts, .int .u32 td, .int .u16 tp, .int .u16 tq] 25 (0, 0))) (hB : W.heap[Bb]? = some (.cells #[.int .u32 ts', .int .u32 td', .int .u16 tp', .int .u16 tq'] 25 (0, 0))) (h0 : J [] W) :
    CallsIn Fence.wide n Tryd.prog 36 #[.func (.yield l) #[] #[], .pointer (some ⟨Ba, 0, none⟩), .pointer (some ⟨Bb, 0, none⟩)] W fun e W' => (∃ v, e = .returned v) ∧
      ((∃ ys : List PN, ys.map (·.1) = pairsU ts td tp tq ts' td' tp' tq' ∧ J ys W') ∨ (∃ pre, pre.map (·.1) <+: pairsU ts td tp tq ts' td' tp' tq' ∧ Jx pre W')) := by
  refine callsIn_of_wp Tryd.func36 rfl trivial ?_ rfl
  simp only [Tryd.ntmps36, List.size_toArray, List.length_cons, List.length_nil, Nat.reduceAdd, Nat.reduceSub, Array.replicate_succ, Array.replicate_zero, List.push_toArray, List.append_toArray, List.nil_append, List.cons_append]
  obtain ⟨h1, h2, h3, h4⟩ := H
  obtain ⟨h1', h2', h3', h4'⟩ := H'
  obtain ⟨a0, a1, a2, a3⟩ := tup_cells _ _ _ _ hA
  obtain ⟨b0, b1, b2, b3⟩ := tup_cells _ _ _ _ hB
  obtain ⟨fn0, tmps0, assign0, body0, hy0, hr0⟩ := hY [] ⟨(ts, ts'), h1, h1'⟩ W h0 (by simp)
  have y0 : (Instr.yield l #[.int .u32 ts, .int .u32 ts']).run Tryd.prog W = .ok (.round l fn0 tmps0 assign0 body0) W := hy0
  have HY := Lib.hid hY
  have e3 : IntKind.u32.wrap tp = tp := IntWalk.u32_in _ (by omega)
  have e3' : IntKind.u32.wrap tp' = tp' := IntWalk.u32_in _ (by omega)
  have e4 : IntKind.u32.wrap tq = tq := IntWalk.u32_in _ (by omega)
  have e4' : IntKind.u32.wrap tq' = tq' := IntWalk.u32_in _ (by omega)
  clear hY hy0 a1 a2 a3 b1 b2 b3
  gi_wp2
  refine hr0.mono ?_
  clear hr0 y0 a0 b0
  rintro e W1 (⟨rfl, J1, k1⟩ | ⟨rfl, Jx1⟩)
  · have hA1 := k1.2 Ba _ _ _ (by simp) hA
    have hB1 := k1.2 Bb _ _ _ (by simp) hB
    obtain ⟨a0, a1, a2, a3⟩ := tup_cells _ _ _ _ hA1
    obtain ⟨b0, b1, b2, b3⟩ := tup_cells _ _ _ _ hB1
    obtain ⟨fn1, tmps1, assign1, body1, hy1, hr1⟩ := HY.out _ ⟨(td, td'), h2, h2'⟩ W1 J1 (by simp)
    have y1 : (Instr.yield l #[.int .u32 td, .int .u32 td']).run Tryd.prog W1 = .ok (.round l fn1 tmps1 assign1 body1) W1 := hy1
    clear hy1 a0 a2 a3 b0 b2 b3
    gi_wp2
    refine hr1.mono ?_
    clear hr1 y1 a1 b1
    rintro e W2 (⟨rfl, J2, k2⟩ | ⟨rfl, Jx2⟩)
    · have hA2 := k2.2 Ba _ _ _ (by simp) hA1
      have hB2 := k2.2 Bb _ _ _ (by simp) hB1
      obtain ⟨a0, a1, a2, a3⟩ := tup_cells _ _ _ _ hA2
      obtain ⟨b0, b1, b2, b3⟩ := tup_cells _ _ _ _ hB2
      obtain ⟨fn2, tmps2, assign2, body2, hy2, hr2⟩ := HY.out _ ⟨(tp, tp'), ⟨h3.1, by simp only; omega⟩, h3'.1, by simp only; omega⟩ W2 J2 (by simp)
      have y2 : (Instr.yield l #[.int .u32 tp, .int .u32 tp']).run Tryd.prog W2 = .ok (.round l fn2 tmps2 assign2 body2) W2 := hy2
      clear hy2 a0 a1 a3 b0 b1 b3
      gi_wp2
      refine hr2.mono ?_
      clear hr2 y2 a2 b2
      rintro e W3 (⟨rfl, J3, k3⟩ | ⟨rfl, Jx3⟩)
      · have hA3 := k3.2 Ba _ _ _ (by simp) hA2
        have hB3 := k3.2 Bb _ _ _ (by simp) hB2
        obtain ⟨a0, a1, a2, a3⟩ := tup_cells _ _ _ _ hA3
        obtain ⟨b0, b1, b2, b3⟩ := tup_cells _ _ _ _ hB3
        obtain ⟨fn3, tmps3, assign3, body3, hy3, hr3⟩ := HY.out _ ⟨(tq, tq'), ⟨h4.1, by simp only; omega⟩, h4'.1, by simp only; omega⟩ W3 J3 (by simp)
        have y3 : (Instr.yield l #[.int .u32 tq, .int .u32 tq']).run Tryd.prog W3 = .ok (.round l fn3 tmps3 assign3 body3) W3 := hy3
        clear hy3 a0 a1 a2 b0 b1 b2
        gi_wp2
        refine hr3.mono ?_
        clear hr3 y3 a3 b3
        rintro e W4 (⟨rfl, J4, k4⟩ | ⟨rfl, Jx4⟩)
        · gi_wp2
          go_end0
          exact ⟨⟨_, rfl⟩, .inl ⟨_, rfl, J4⟩⟩
        · gi_wp2
          go_end0
          exact ⟨⟨_, rfl⟩, .inr ⟨_, ⟨[], rfl⟩, Jx4⟩⟩
      · gi_wp2
        go_end0
        exact ⟨⟨_, rfl⟩, .inr ⟨_, ⟨[(tq, tq')], rfl⟩, Jx3⟩⟩
    · gi_wp2
      refine ⟨fun f h => (by cases h), ?_⟩
      apply_assumption
      gi_wp2
      go_end0
      exact ⟨⟨_, rfl⟩, .inr ⟨_, ⟨[(tp, tp'), (tq, tq')], rfl⟩, Jx2⟩⟩
  · gi_wp2
    refine ⟨fun f h => (by cases h), ?_⟩
    apply_assumption
    gi_wp2
    go_end0
    exact ⟨⟨_, rfl⟩, .inr ⟨_, ⟨[(td, td'), (tp, tp'), (tq, tq')], rfl⟩, Jx1⟩⟩

theorem nums_stops (ts td tp tq : Int) (ts' td' tp' tq' : Int) (n : Nat) (hn : 1 ≤ n) (Ba Bb n₀ : Nat) (H : UNums ts td tp tq) (H' : UNums ts' td' tp' tq') (w : World)
    (hA : w.heap[Ba]? = some (.cells #[.int .u32 ts, .int .u32 td, .int .u16 tp, .int .u16 tq] 25 (0, 0))) (hB : w.heap[Bb]? = some (.cells #[.int .u32 ts', .int .u32 td', .int .u16 tp', .int .u16 tq'] 25 (0, 0))) :
    SeqPlain Fence.wide n Tryd.prog 36 #[.pointer (some ⟨Ba, 0, none⟩), .pointer (some ⟨Bb, 0, none⟩)] (fun x : PN => #[.int .u32 x.1.1, .int .u32 x.1.2]) (KeepT n₀ [25]) (fun ys => ys.map (·.1) = pairsU ts td tp tq ts' td' tp' tq') (fun pre => pre.map (·.1) <+: pairsU ts td tp tq ts' td' tp' tq') 4 w := fun l J Jx W hWb hY h0 =>
  numsIter_in ts td tp tq ts' td' tp' tq' n hn l Ba Bb n₀ H H' J Jx W hY ((hWb.block Ba (Array.getElem?_eq_some_iff.1 hA).1).trans hA) ((hWb.block Bb (Array.getElem?_eq_some_iff.1 hB).1).trans hB) h0

/-- Which pair is the first that differs, and whether its first number is less. -/
def lessP : List (Int × Int) → Bool
  | [] => false
  | (x, y) :: r => if x = y then lessP r else decide (x < y)
theorem lessP_same (l : List (Int × Int)) (h : ∀ p ∈ l, p.1 = p.2) : lessP l = false := by
  induction l with
  | nil => rfl
  | cons p r ih =>
    obtain ⟨x, y⟩ := p
    have e : x = y := h (x, y) (by simp)
    simp only [lessP]
    rw [if_pos e]
    exact ih (fun q hq => h q (by simp [hq]))
theorem lessP_at (a : List (Int × Int)) (x y : Int) (r : List (Int × Int)) (h : ∀ p ∈ a, p.1 = p.2) (hne : x ≠ y) : lessP (a ++ (x, y) :: r) = decide (x < y) := by
  induction a with
  | nil => simp only [List.nil_append, lessP]; rw [if_neg hne]
  | cons p q ih =>
    obtain ⟨u, v⟩ := p
    have e : u = v := h (u, v) (by simp)
    simp only [List.cons_append, lessP]
    rw [if_pos e]
    exact ih (fun z hz => h z (by simp [hz]))

/-- The order of four bytes is that of their number; of two likewise. -/
theorem cmpL4 (x y : Int) (hx : 0 ≤ x ∧ x ≤ 4294967295) (hy : 0 ≤ y ∧ y ≤ 4294967295) (r t : List Int) :
    cmpL (x / 16777216 % 256 :: x / 65536 % 256 :: x / 256 % 256 :: x % 256 :: r) (y / 16777216 % 256 :: y / 65536 % 256 :: y / 256 % 256 :: y % 256 :: t) = if x < y then -1 else if y < x then 1 else cmpL r t := by
  simp only [cmpL]
  repeat' split
  all_goals first | rfl | (exfalso; omega)
theorem cmpL2 (x y : Int) (hx : 0 ≤ x ∧ x ≤ 65535) (hy : 0 ≤ y ∧ y ≤ 65535) (r t : List Int) :
    cmpL (x / 256 % 256 :: x % 256 :: r) (y / 256 % 256 :: y % 256 :: t) = if x < y then -1 else if y < x then 1 else cmpL r t := by
  simp only [cmpL]
  repeat' split
  all_goals first | rfl | (exfalso; omega)
theorem cmpU_nums {ts td tp tq ts' td' tp' tq' : Int} (H : UNums ts td tp tq) (H' : UNums ts' td' tp' tq') :
    cmpU ts td tp tq ts' td' tp' tq' = if ts < ts' then -1 else if ts' < ts then 1 else if td < td' then -1 else if td' < td then 1 else if tp < tp' then -1 else if tp' < tp then 1 else if tq < tq' then -1 else if tq' < tq then 1 else 0 := by
  unfold cmpU tupB
  rw [cmpL4 _ _ H.h1 H'.h1, cmpL4 _ _ H.h2 H'.h2, cmpL2 _ _ H.h3 H'.h3, cmpL2 _ _ H.h4 H'.h4]
  rfl
theorem lessP_cmpU {ts td tp tq ts' td' tp' tq' : Int} (H : UNums ts td tp tq) (H' : UNums ts' td' tp' tq') :
    lessP (pairsU ts td tp tq ts' td' tp' tq') = decide (cmpU ts td tp tq ts' td' tp' tq' < 0) := by
  rw [cmpU_nums H H']
  simp only [pairsU, lessP]
  repeat' split
  all_goals first | rfl | (exfalso; omega) | (rw [Bool.eq_iff_iff]; simp; omega)
end Go.Proofs.YtpbheonapgckfaaDoor
