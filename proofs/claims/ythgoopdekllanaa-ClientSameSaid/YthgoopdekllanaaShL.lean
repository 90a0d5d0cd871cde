/- The numbers of a sheet's head, of a row, one by one: what the iterators hand out. -/
import Derived.Test.YthgoopdekllanaaShJ
namespace Go.Proofs.Ythgoopdekllanaa
open Go.RowKit Go.Shelf
open SumM

attribute [local go_sem] Oper.semAt_some

/-- Types of boxes that hold a pointer. -/
def pTs : List TypeId := [84, 78, 79]
theorem ptr_cell {w : World} {b : Nat} {v : Value} {t : TypeId} (h : w.heap[b]? = some (.cells #[v] t (0, 0))) : w.cell? ⟨b, 0, none⟩ = some v := by rw [cell_of_row _ _ _ _ _ _ h]; rfl
/-- The numbers of a row. -/
def rnP (k : Nat) : Int := match k with | 0 => 0 | 1 => 1 | 2 => 1 | 3 => 0 | _ => 0
def rnW (k : Nat) : Nat := match k with | 0 => 1 | 1 => 1 | 2 => 1 | 3 => 4 | _ => 6
def rnE (B k : Nat) : Array Value := #[nmV ⟨B, k, none⟩ (rnP k) (rnW k : Nat)]
/-- The numbers of a head. -/
def hnB (B C k : Nat) : Nat := match k with | 0 => B | 1 => B | _ => C
def hnO (k : Nat) : Nat := match k with | 0 => 0 | 1 => 1 | _ => 0
abbrev hnA (B C : Nat) (k : Nat) : Addr := ⟨hnB B C k, hnO k, none⟩
def hnP (k : Nat) : Int := match k with | 0 => 1 | 1 => 0 | _ => 0
def hnW (k : Nat) : Nat := match k with | 0 => 6 | 1 => 6 | _ => 1
def hnE (B C k : Nat) : Array Value := #[nmV (hnA B C k) (hnP k) (hnW k : Nat)]

set_option maxRecDepth 100000 in
theorem rowNumbers_in (n : Nat) (B : Nat) (w : World) :
    CallsIn Fence.wide n Try.prog 49 #[.pointer (some ⟨B, 0, none⟩)] w fun e w' => e = .returned (.func (.func 69) #[] #[.pointer (some ⟨w.heap.size, 0, none⟩)]) ∧ w' = w.alloc (.cells #[.pointer (some ⟨B, 0, none⟩)] 84) := by
  refine callsIn_of_wp Try.func49 rfl trivial ?_ rfl
  simp only [Try.ntmps49, List.size_toArray, List.length_cons, List.length_nil, Nat.reduceAdd, Nat.reduceSub, Array.replicate_succ, Array.replicate_zero, List.push_toArray, List.append_toArray, List.nil_append, List.cons_append]
  gi_wp2
  go_ret
  exact ⟨rfl, rfl⟩

set_option maxRecDepth 100000 in
theorem headNumbers_in (n : Nat) (B C : Nat) (w : World) :
    CallsIn Fence.wide n Try.prog 47 #[.pointer (some ⟨B, 0, none⟩), .pointer (some ⟨C, 0, none⟩)] w fun e w' => e = .returned (.func (.func 68) #[] #[.pointer (some ⟨w.heap.size, 0, none⟩), .pointer (some ⟨w.heap.size + 1, 0, none⟩)]) ∧ w' = (w.alloc (.cells #[.pointer (some ⟨B, 0, none⟩)] 78)).alloc (.cells #[.pointer (some ⟨C, 0, none⟩)] 79) := by
  refine callsIn_of_wp Try.func47 rfl trivial ?_ rfl
  simp only [Try.ntmps47, List.size_toArray, List.length_cons, List.length_nil, Nat.reduceAdd, Nat.reduceSub, Array.replicate_succ, Array.replicate_zero, List.push_toArray, List.append_toArray, List.nil_append, List.cons_append]
  gi_wp2
  go_ret
  exact ⟨rfl, rfl⟩

set_option maxRecDepth 100000 in
set_option maxHeartbeats 8000000 in
theorem rowNums_in (n : Nat) (hn : 1 ≤ n) (l nb B n0 : Nat) (W : World) (J Jx : List Nat → World → Prop) (hb0 : W.heap[nb]? = some (.cells #[.pointer (some ⟨B, 0, none⟩)] 84 (0, 0)))
    (hY : ∀ pre x V, J pre V → (x = pre.length ∧ x < 5) → YieldAt Fence.wide (n - 1) Try.prog l (rnE B x) V fun e V' => (e = .returned (.bool true) ∧ J (pre ++ [x]) V' ∧ KeepT n0 pTs V V') ∨ (e = .returned (.bool false) ∧ Jx (pre ++ [x]) V'))
    (h0 : J [] W) :
    CallsIn Fence.wide n Try.prog 69 (#[.func (.yield l) #[] #[]] ++ #[.pointer (some ⟨nb, 0, none⟩)]) W fun e W' => (∃ v, e = .returned v) ∧
      ((∃ xs, xs = [0, 1, 2, 3, 4] ∧ J xs W') ∨ (∃ pre, True ∧ Jx pre W')) := by
  refine callsIn_of_wp Try.func69 rfl trivial ?_ rfl
  simp only [Try.ntmps69, List.size_toArray, List.length_cons, List.length_nil, Nat.reduceAdd, Nat.reduceSub, Array.replicate_succ, Array.replicate_zero, List.push_toArray, List.append_toArray, List.nil_append, List.cons_append]
  have HY := Lib.hid hY
  clear hY
  have J0 := Lib.hid h0
  clear h0
  have B0 := Lib.hid hb0
  clear hb0
  obtain ⟨fn, tmps, assign, body, hy, hr⟩ := HY.out [] 0 W J0.out ⟨rfl, by omega⟩
  have y : (Instr.yield l #[.agg #[.pointer (some ⟨B, 0, none⟩), .int .i64 0, .int .i64 1]]).run Try.prog W = .ok (.round l fn tmps assign body) W := hy
  have HR := Lib.hid hr
  clear hy hr
  have cp0 := ptr_cell B0.out
  gi_wp2_with fail
  refine HR.out.mono ?_
  clear HR y cp0
  rintro e V1 (⟨rfl, j1, k1⟩ | ⟨rfl, jx⟩)
  rotate_left
  · have HJ := Lib.hid jx
    clear jx
    gi_wp2
    iterate 5 (try (refine ⟨fun f h => (by cases h), ?_⟩; apply_assumption; gi_wp2))
    first | exact bodyPost_end (results_none rfl _ _ _) (by kernel_rfl) ⟨⟨_, rfl⟩, .inr ⟨_, trivial, HJ.out⟩⟩ | (go_end0; exact ⟨⟨_, rfl⟩, .inr ⟨_, trivial, HJ.out⟩⟩)
  have J1 := Lib.hid j1
  have B0 := Lib.hid (k1.2 _ _ _ _ (by decide) B0.out)
  clear j1 k1
  obtain ⟨fn, tmps, assign, body, hy, hr⟩ := HY.out [0] 1 V1 J1.out ⟨rfl, by omega⟩
  have y : (Instr.yield l #[.agg #[.pointer (some ⟨B, 1, none⟩), .int .i64 1, .int .i64 1]]).run Try.prog V1 = .ok (.round l fn tmps assign body) V1 := hy
  have HR := Lib.hid hr
  clear hy hr
  have cp0 := ptr_cell B0.out
  gi_wp2_with fail
  refine HR.out.mono ?_
  clear HR y cp0
  rintro e V2 (⟨rfl, j2, k2⟩ | ⟨rfl, jx⟩)
  rotate_left
  · have HJ := Lib.hid jx
    clear jx
    gi_wp2
    iterate 5 (try (refine ⟨fun f h => (by cases h), ?_⟩; apply_assumption; gi_wp2))
    first | exact bodyPost_end (results_none rfl _ _ _) (by kernel_rfl) ⟨⟨_, rfl⟩, .inr ⟨_, trivial, HJ.out⟩⟩ | (go_end0; exact ⟨⟨_, rfl⟩, .inr ⟨_, trivial, HJ.out⟩⟩)
  have J2 := Lib.hid j2
  have B0 := Lib.hid (k2.2 _ _ _ _ (by decide) B0.out)
  clear j2 k2
  obtain ⟨fn, tmps, assign, body, hy, hr⟩ := HY.out [0, 1] 2 V2 J2.out ⟨rfl, by omega⟩
  have y : (Instr.yield l #[.agg #[.pointer (some ⟨B, 2, none⟩), .int .i64 1, .int .i64 1]]).run Try.prog V2 = .ok (.round l fn tmps assign body) V2 := hy
  have HR := Lib.hid hr
  clear hy hr
  have cp0 := ptr_cell B0.out
  gi_wp2_with fail
  refine HR.out.mono ?_
  clear HR y cp0
  rintro e V3 (⟨rfl, j3, k3⟩ | ⟨rfl, jx⟩)
  rotate_left
  · have HJ := Lib.hid jx
    clear jx
    gi_wp2
    iterate 5 (try (refine ⟨fun f h => (by cases h), ?_⟩; apply_assumption; gi_wp2))
    first | exact bodyPost_end (results_none rfl _ _ _) (by kernel_rfl) ⟨⟨_, rfl⟩, .inr ⟨_, trivial, HJ.out⟩⟩ | (go_end0; exact ⟨⟨_, rfl⟩, .inr ⟨_, trivial, HJ.out⟩⟩)
  have J3 := Lib.hid j3
  have B0 := Lib.hid (k3.2 _ _ _ _ (by decide) B0.out)
  clear j3 k3
  obtain ⟨fn, tmps, assign, body, hy, hr⟩ := HY.out [0, 1, 2] 3 V3 J3.out ⟨rfl, by omega⟩
  have y : (Instr.yield l #[.agg #[.pointer (some ⟨B, 3, none⟩), .int .i64 0, .int .i64 4]]).run Try.prog V3 = .ok (.round l fn tmps assign body) V3 := hy
  have HR := Lib.hid hr
  clear hy hr
  have cp0 := ptr_cell B0.out
  gi_wp2_with fail
  refine HR.out.mono ?_
  clear HR y cp0
  rintro e V4 (⟨rfl, j4, k4⟩ | ⟨rfl, jx⟩)
  rotate_left
  · have HJ := Lib.hid jx
    clear jx
    gi_wp2
    iterate 5 (try (refine ⟨fun f h => (by cases h), ?_⟩; apply_assumption; gi_wp2))
    first | exact bodyPost_end (results_none rfl _ _ _) (by kernel_rfl) ⟨⟨_, rfl⟩, .inr ⟨_, trivial, HJ.out⟩⟩ | (go_end0; exact ⟨⟨_, rfl⟩, .inr ⟨_, trivial, HJ.out⟩⟩)
  have J4 := Lib.hid j4
  have B0 := Lib.hid (k4.2 _ _ _ _ (by decide) B0.out)
  clear j4 k4
  obtain ⟨fn, tmps, assign, body, hy, hr⟩ := HY.out [0, 1, 2, 3] 4 V4 J4.out ⟨rfl, by omega⟩
  have y : (Instr.yield l #[.agg #[.pointer (some ⟨B, 4, none⟩), .int .i64 0, .int .i64 6]]).run Try.prog V4 = .ok (.round l fn tmps assign body) V4 := hy
  have HR := Lib.hid hr
  clear hy hr
  have cp0 := ptr_cell B0.out
  gi_wp2_with fail
  refine HR.out.mono ?_
  clear HR y cp0
  rintro e V5 (⟨rfl, j5, k5⟩ | ⟨rfl, jx⟩)
  rotate_left
  · have HJ := Lib.hid jx
    clear jx
    gi_wp2
    iterate 5 (try (refine ⟨fun f h => (by cases h), ?_⟩; apply_assumption; gi_wp2))
    first | exact bodyPost_end (results_none rfl _ _ _) (by kernel_rfl) ⟨⟨_, rfl⟩, .inr ⟨_, trivial, HJ.out⟩⟩ | (go_end0; exact ⟨⟨_, rfl⟩, .inr ⟨_, trivial, HJ.out⟩⟩)
  have J5 := Lib.hid j5
  have B0 := Lib.hid (k5.2 _ _ _ _ (by decide) B0.out)
  clear j5 k5
  gi_wp2
  exact bodyPost_end (results_none rfl _ _ _) (by kernel_rfl) ⟨⟨_, rfl⟩, .inl ⟨_, rfl, J5.out⟩⟩

set_option maxRecDepth 100000 in
set_option maxHeartbeats 8000000 in
theorem headNums_in (n : Nat) (hn : 1 ≤ n) (l nb nc B C n0 : Nat) (W : World) (J Jx : List Nat → World → Prop) (hb0 : W.heap[nb]? = some (.cells #[.pointer (some ⟨B, 0, none⟩)] 78 (0, 0))) (hb1 : W.heap[nc]? = some (.cells #[.pointer (some ⟨C, 0, none⟩)] 79 (0, 0)))
    (hY : ∀ pre x V, J pre V → (x = pre.length ∧ x < 3) → YieldAt Fence.wide (n - 1) Try.prog l (hnE B C x) V fun e V' => (e = .returned (.bool true) ∧ J (pre ++ [x]) V' ∧ KeepT n0 pTs V V') ∨ (e = .returned (.bool false) ∧ Jx (pre ++ [x]) V'))
    (h0 : J [] W) :
    CallsIn Fence.wide n Try.prog 68 (#[.func (.yield l) #[] #[]] ++ #[.pointer (some ⟨nb, 0, none⟩), .pointer (some ⟨nc, 0, none⟩)]) W fun e W' => (∃ v, e = .returned v) ∧
      ((∃ xs, xs = [0, 1, 2] ∧ J xs W') ∨ (∃ pre, True ∧ Jx pre W')) := by
  refine callsIn_of_wp Try.func68 rfl trivial ?_ rfl
  simp only [Try.ntmps68, List.size_toArray, List.length_cons, List.length_nil, Nat.reduceAdd, Nat.reduceSub, Array.replicate_succ, Array.replicate_zero, List.push_toArray, List.append_toArray, List.nil_append, List.cons_append]
  have HY := Lib.hid hY
  clear hY
  have J0 := Lib.hid h0
  clear h0
  have B0 := Lib.hid hb0
  clear hb0
  have B1 := Lib.hid hb1
  clear hb1
  obtain ⟨fn, tmps, assign, body, hy, hr⟩ := HY.out [] 0 W J0.out ⟨rfl, by omega⟩
  have y : (Instr.yield l #[.agg #[.pointer (some ⟨B, 0, none⟩), .int .i64 1, .int .i64 6]]).run Try.prog W = .ok (.round l fn tmps assign body) W := hy
  have HR := Lib.hid hr
  clear hy hr
  have cp0 := ptr_cell B0.out
  have cp1 := ptr_cell B1.out
  gi_wp2_with fail
  refine HR.out.mono ?_
  clear HR y cp0 cp1
  rintro e V1 (⟨rfl, j1, k1⟩ | ⟨rfl, jx⟩)
  rotate_left
  · have HJ := Lib.hid jx
    clear jx
    gi_wp2
    iterate 5 (try (refine ⟨fun f h => (by cases h), ?_⟩; apply_assumption; gi_wp2))
    first | exact bodyPost_end (results_none rfl _ _ _) (by kernel_rfl) ⟨⟨_, rfl⟩, .inr ⟨_, trivial, HJ.out⟩⟩ | (go_end0; exact ⟨⟨_, rfl⟩, .inr ⟨_, trivial, HJ.out⟩⟩)
  have J1 := Lib.hid j1
  have B0 := Lib.hid (k1.2 _ _ _ _ (by decide) B0.out)
  have B1 := Lib.hid (k1.2 _ _ _ _ (by decide) B1.out)
  clear j1 k1
  obtain ⟨fn, tmps, assign, body, hy, hr⟩ := HY.out [0] 1 V1 J1.out ⟨rfl, by omega⟩
  have y : (Instr.yield l #[.agg #[.pointer (some ⟨B, 1, none⟩), .int .i64 0, .int .i64 6]]).run Try.prog V1 = .ok (.round l fn tmps assign body) V1 := hy
  have HR := Lib.hid hr
  clear hy hr
  have cp0 := ptr_cell B0.out
  have cp1 := ptr_cell B1.out
  gi_wp2_with fail
  refine HR.out.mono ?_
  clear HR y cp0 cp1
  rintro e V2 (⟨rfl, j2, k2⟩ | ⟨rfl, jx⟩)
  rotate_left
  · have HJ := Lib.hid jx
    clear jx
    gi_wp2
    iterate 5 (try (refine ⟨fun f h => (by cases h), ?_⟩; apply_assumption; gi_wp2))
    first | exact bodyPost_end (results_none rfl _ _ _) (by kernel_rfl) ⟨⟨_, rfl⟩, .inr ⟨_, trivial, HJ.out⟩⟩ | (go_end0; exact ⟨⟨_, rfl⟩, .inr ⟨_, trivial, HJ.out⟩⟩)
  have J2 := Lib.hid j2
  have B0 := Lib.hid (k2.2 _ _ _ _ (by decide) B0.out)
  have B1 := Lib.hid (k2.2 _ _ _ _ (by decide) B1.out)
  clear j2 k2
  obtain ⟨fn, tmps, assign, body, hy, hr⟩ := HY.out [0, 1] 2 V2 J2.out ⟨rfl, by omega⟩
  have y : (Instr.yield l #[.agg #[.pointer (some ⟨C, 0, none⟩), .int .i64 0, .int .i64 1]]).run Try.prog V2 = .ok (.round l fn tmps assign body) V2 := hy
  have HR := Lib.hid hr
  clear hy hr
  have cp0 := ptr_cell B0.out
  have cp1 := ptr_cell B1.out
  gi_wp2_with fail
  refine HR.out.mono ?_
  clear HR y cp0 cp1
  rintro e V3 (⟨rfl, j3, k3⟩ | ⟨rfl, jx⟩)
  rotate_left
  · have HJ := Lib.hid jx
    clear jx
    gi_wp2
    iterate 5 (try (refine ⟨fun f h => (by cases h), ?_⟩; apply_assumption; gi_wp2))
    first | exact bodyPost_end (results_none rfl _ _ _) (by kernel_rfl) ⟨⟨_, rfl⟩, .inr ⟨_, trivial, HJ.out⟩⟩ | (go_end0; exact ⟨⟨_, rfl⟩, .inr ⟨_, trivial, HJ.out⟩⟩)
  have J3 := Lib.hid j3
  have B0 := Lib.hid (k3.2 _ _ _ _ (by decide) B0.out)
  have B1 := Lib.hid (k3.2 _ _ _ _ (by decide) B1.out)
  clear j3 k3
  gi_wp2
  exact bodyPost_end (results_none rfl _ _ _) (by kernel_rfl) ⟨⟨_, rfl⟩, .inl ⟨_, rfl, J3.out⟩⟩

end Go.Proofs.Ythgoopdekllanaa
