/- slices.Values over tuples and the closure that it hands back. -/
import Derived.Test.YtpbheonapgckfaaDoorTupM
import Derived.Sort.CutIn
namespace Go.Proofs.YtpbheonapgckfaaDoor
open Go.RowKit Go.Shelf
open SumM

attribute [local go_sem] Oper.semAt_some

theorem Keep.grown {n : Nat} {bx : List Nat} {W W' : World} (hn : n ≤ W.heap.size) (h : W.grownBy W' none) : Keep n bx W W' :=
  ⟨(Below.refl n W).grown h hn (fun k e => by cases e), fun b _ o ho _ => (h.block b (Array.getElem?_eq_some_iff.1 ho).1 (by simp)).trans ho⟩
theorem grown_setCells {w : World} (b : Nat) (hb : w.heap.size ≤ b) : ∀ (vs : List Value) (o : Nat) (V : World), w.grownBy V none → w.grownBy (V.setCells b o vs) none
  | [], _, _, h => h
  | v :: r, o, V, h => grown_setCells b hb r (o + 1) _ ⟨h.os, h.tape, h.output, by rw [World.size_setCell]; exact h.size, fun k hk hne => (Below.heap_setCell V ⟨b, o, none⟩ v k (by simp only; omega)).trans (h.block k hk hne)⟩

set_option maxHeartbeats 1000000 in
theorem valuesT_in (n : Nat) (a : Option Addr) (len cap : Nat) (w : World) :
    CallsIn Fence.wide n Tryd.prog 34 #[.slice a len cap] w fun e w' => e = .returned (.func (.func 42) #[] #[.pointer (some ⟨w.heap.size, 0, none⟩)]) ∧ w' = w.alloc (.cells #[.slice a len cap] 27) := by
  refine callsIn_of_wp Tryd.func34 rfl trivial ?_ rfl
  simp only [Tryd.ntmps34, List.size_toArray, List.length_cons, List.length_nil, Nat.reduceAdd, Nat.reduceSub, Array.replicate_succ, Array.replicate_zero, List.push_toArray, List.append_toArray, List.nil_append, List.cons_append]
  gi_wp2
  go_ret
  exact ⟨rfl, rfl⟩

set_option maxRecDepth 100000 in
set_option maxHeartbeats 4000000 in
theorem valsIter_in (n : Nat) (hn : 1 ≤ n) (l Bs n₀ len cap : Nat) (a : Option Addr) (us : List Tup) (hl : us.length = len) (hs : len ≤ 1000) (J Jx : List Tup → World → Prop)
    (hY : ∀ pre x W, J pre W → pre.length < len → YieldAt Fence.wide (n - 1) Tryd.prog l #[.agg #[.int .u32 x.1, .int .u32 x.2.1, .int .u16 x.2.2.1, .int .u16 x.2.2.2]] W fun e W' =>
      (e = .returned (.bool true) ∧ J (pre ++ [x]) W' ∧ Keep n₀ [Bs] W W') ∨ (e = .returned (.bool false) ∧ Jx (pre ++ [x]) W'))
    (W : World) (hn₀ : n₀ ≤ W.heap.size) (hJ : AbidesFrom W.heap.size J) (hB : Boxed W Bs 27 (.slice a len cap)) (hR : TRow n₀ W a us) (h0 : J [] W) :
    CallsIn Fence.wide n Tryd.prog 42 #[.func (.yield l) #[] #[], .pointer (some ⟨Bs, 0, none⟩)] W fun e W' => (∃ v, e = .returned v) ∧
      ((∃ ys, ys = us ∧ J ys W') ∨ (∃ pre, pre.length ≤ len ∧ Jx pre W')) := by
  have HL := Lib.hid hl
  have HJ := Lib.hid hJ
  have HY := Lib.hid hY
  clear hl hJ hY
  refine callsIn_of_wp Tryd.func42 rfl trivial ?_ rfl
  simp only [Tryd.ntmps42, List.size_toArray, List.length_cons, List.length_nil, Nat.reduceAdd, Nat.reduceSub, Array.replicate_succ, Array.replicate_zero, List.push_toArray, List.append_toArray, List.nil_append, List.cons_append]
  have hc0 := hB.cell
  gi_wp2
  gi_loopw [7] (fun i wr => ∃ k : Nat, k ≤ len ∧ i = .int .i64 (k : Nat) ∧ J (us.take k) wr ∧ Keep n₀ [Bs] W wr)
    (fun i _ => len - (intOf i).toNat)
  case atStart => exact ⟨0, by omega, rfl, by simpa using h0, Keep.refl _ _ _⟩
  case round =>
    obtain ⟨k, hk, rfl, hJs, hnx⟩ := hrel
    have hcB := (hnx.boxed (by simp) hB).cell
    by_cases hlt : k < len
    · obtain ⟨b, off, rfl, hb, hc⟩ := (hR.below hnx.1).2 (by rw [HL.out]; omega)
      have hck := hc k (by rw [HL.out]; omega)
      have hwr : n₀ ≤ wr.heap.size := Nat.le_trans hn₀ hnx.1.size
      have hd := heap_alloc_new wr (.cells #[.int .u32 0, .int .u32 0, .int .u16 0, .int .u16 0] 25)
      obtain ⟨x, hx⟩ : ∃ x, us[k]?.getD tup0 = x := ⟨_, rfl⟩
      rw [hx] at hck
      have HX := Lib.hid hx
      clear hc hx
      obtain ⟨x1, x2, x3, x4⟩ := x
      obtain ⟨y0, y1, y2, y3⟩ := hck
      obtain ⟨z0, z1, z2, z3⟩ := tup_cells _ _ _ _ hd
      have f0 := tup_frozen hd 0
      have f1 := tup_frozen hd 1
      have f2 := tup_frozen hd 2
      have f3 := tup_frozen hd 3
      have hk0 : (0 : Int) ≤ (k : Int) := by omega
      have hk12 : (k : Int) < (len : Int) := by omega
      have J1 := HJ.out (us.take k) wr (wr.alloc (.cells #[.int .u32 x1, .int .u32 x2, .int .u16 x3, .int .u16 x4] 25)) none hJs (World.grownBy_alloc wr _ none) (fun r e => by cases e)
      have K1 : Keep n₀ [Bs] wr (wr.alloc (.cells #[.int .u32 x1, .int .u32 x2, .int .u16 x3, .int .u16 x4] 25)) := Keep.grown hwr (World.grownBy_alloc wr _ none)
      obtain ⟨fn, tmps, assign, body, hy, hRd⟩ := HY.out _ (x1, x2, x3, x4) _ J1 (by simp; omega)
      have y : (Instr.yield l #[.agg #[.int .u32 x1, .int .u32 x2, .int .u16 x3, .int .u16 x4]]).run Tryd.prog (wr.alloc (.cells #[.int .u32 x1, .int .u32 x2, .int .u16 x3, .int .u16 x4] 25)) = .ok (.round l fn tmps assign body) (wr.alloc (.cells #[.int .u32 x1, .int .u32 x2, .int .u16 x3, .int .u16 x4] 25)) := hy
      have HT := Lib.hid (show us.take k ++ [(x1, x2, x3, x4)] = us.take (k + 1) by
        rw [List.take_add_one, ← HX.out]
        simp [show k < us.length by rw [HL.out]; exact hlt])
      have NX := Lib.hid (keep_t hnx K1)
      clear hy K1 J1
      gi_wp2
      refine hRd.mono ?_
      rintro e W3 (⟨rfl, hJ3, hk3⟩ | ⟨rfl, hJx3⟩)
      · rw [HT.out] at hJ3
        gi_wp2
        go_roundw
        case rel => exact ⟨k + 1, by omega, by go_num, hJ3, keep_t NX.out hk3⟩
        case measure => simp [intOf]; omega
      · gi_wp2
        refine bodyPost_ret (results_none rfl _ _ _) rfl ?_
        exact ⟨⟨_, rfl⟩, .inr ⟨_, by simp; omega, hJx3⟩⟩
    · obtain rfl : k = len := by omega
      gi_wp2
      go_end0
      exact ⟨⟨_, rfl⟩, .inl (by rw [List.take_of_length_le (by rw [HL.out]; exact Nat.le_refl _)] at hJs; exact ⟨_, rfl, hJs⟩)⟩

theorem valsT_stops (n : Nat) (hn : 1 ≤ n) (Bs n₀ len cap : Nat) (a : Option Addr) (us : List Tup) (hl : us.length = len) (hs : len ≤ 1000) (w : World) (hn₀ : n₀ ≤ w.heap.size) (hB : Boxed w Bs 27 (.slice a len cap)) (hR : TRow n₀ w a us) :
    SeqStopsK Fence.wide n Tryd.prog 42 #[.pointer (some ⟨Bs, 0, none⟩)] (fun x : Tup => #[.agg #[.int .u32 x.1, .int .u32 x.2.1, .int .u16 x.2.2.1, .int .u16 x.2.2.2]]) (Keep n₀ [Bs]) (fun ys => ys = us) (fun pre => pre.length ≤ len) len w := fun l J Jx W hW hJ _ hY h0 =>
  valsIter_in n hn l Bs n₀ len cap a us hl hs J Jx hY W (Nat.le_trans hn₀ hW.size) hJ ((hW.block Bs hB.lt).trans hB) (hR.below (hW.mono hn₀)) h0
end Go.Proofs.YtpbheonapgckfaaDoor
