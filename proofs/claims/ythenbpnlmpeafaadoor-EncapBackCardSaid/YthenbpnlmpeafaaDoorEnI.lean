/- Package encap: the nodes come by a range over a function: what the iterator hands out. -/
import Derived.Test.YthenbpnlmpeafaaDoorEnA
import Derived.Test.YthenbpnlmpeafaaDoorRangeOk
import Derived.LoopIn
namespace Go.Proofs.YthenbpnlmpeafaaDoor
open Go.RowKit Go.Shelf
open SumM

set_option maxHeartbeats 1000000 in
theorem nodes_fn (n : Nat) (w : World) :
    CallsIn Fence.wide n Tryd.prog 29 #[] w fun e w' => e = .returned (.func (.func 43) #[] #[]) ∧ w' = w := by
  refine callsIn_of_wp Tryd.func29 rfl trivial ?_ rfl
  simp only [Tryd.ntmps29, List.size_toArray, List.length_nil, Nat.reduceSub, Array.replicate_succ, Array.replicate_zero, List.push_toArray, List.append_toArray, List.nil_append]
  gi_wp2
  go_ret
  exact ⟨rfl, rfl⟩

/-- What is handed out: a node. -/
def encN (u : Nod) : Array Value := #[.agg #[.int .u8 u.1, .int .i64 u.2]]
/-- Where a kind's nodes begin in the row of all. -/
def offN (k : Nat) : Nat := match k with | 0 => 0 | 1 => 0 | 2 => 3 | 3 => 9 | _ => 10
/-- Which one comes behind those that came. -/
def NodOk (pre : List Nod) (u : Nod) : Prop := pre = allN.take pre.length ∧ allN[pre.length]? = some u

theorem nodOk_at (k o m : Nat) (ho : o + m ≤ 10) (h : ∀ j : Nat, j < m → allN[o + j]? = some ((k : Int), (j : Int))) (j : Nat) (hj : j < m) : NodOk (allN.take (o + j)) ((k : Int), (j : Int)) := by
  have hl : (allN.take (o + j)).length = o + j := by
    rw [List.length_take]
    have : allN.length = 10 := rfl
    omega
  refine ⟨by rw [hl], ?_⟩
  rw [hl]
  exact h j hj
theorem take_next (k o m : Nat) (h : ∀ j : Nat, j < m → allN[o + j]? = some ((k : Int), (j : Int))) (j : Nat) (hj : j < m) : allN.take (o + j) ++ [((k : Int), (j : Int))] = allN.take (o + (j + 1)) := by
  rw [show o + (j + 1) = o + j + 1 by omega, List.take_add_one, h j hj]
  rfl
theorem many_at (W : World) : (Instr.index 78 (.agg #[.int .i64 0, .int .i64 3, .int .i64 6, .int .i64 1]) (.int .i64 0)).run Tryd.prog W = .ok (.int .i64 0) W ∧ (Instr.index 78 (.agg #[.int .i64 0, .int .i64 3, .int .i64 6, .int .i64 1]) (.int .i64 1)).run Tryd.prog W = .ok (.int .i64 3) W ∧
    (Instr.index 78 (.agg #[.int .i64 0, .int .i64 3, .int .i64 6, .int .i64 1]) (.int .i64 2)).run Tryd.prog W = .ok (.int .i64 6) W ∧ (Instr.index 78 (.agg #[.int .i64 0, .int .i64 3, .int .i64 6, .int .i64 1]) (.int .i64 3)).run Tryd.prog W = .ok (.int .i64 1) W :=
  ⟨by kernel_rfl, by kernel_rfl, by kernel_rfl, by kernel_rfl⟩
/-- Of a kind: how many nodes, and where they begin. -/
theorem kind_at (k : Nat) (hk : k < 4) : ∃ m o : Nat, m ≤ 6 ∧ o + m ≤ 10 ∧ offN k = o ∧ offN (k + 1) = o + m ∧ (∀ j : Nat, j < m → allN[o + j]? = some ((k : Int), (j : Int))) ∧ ∀ W, (Instr.index 78 (.agg #[.int .i64 0, .int .i64 3, .int .i64 6, .int .i64 1]) (.int .i64 k)).run Tryd.prog W = .ok (.int .i64 m) W := by
  have hkc : k = 0 ∨ k = 1 ∨ k = 2 ∨ k = 3 := by omega
  rcases hkc with rfl | rfl | rfl | rfl
  · exact ⟨0, 0, by decide, by decide, rfl, rfl, by decide, fun W => (many_at W).1⟩
  · exact ⟨3, 0, by decide, by decide, rfl, rfl, by decide, fun W => (many_at W).2.1⟩
  · exact ⟨6, 3, by decide, by decide, rfl, rfl, by decide, fun W => (many_at W).2.2.1⟩
  · exact ⟨1, 9, by decide, by decide, rfl, rfl, by decide, fun W => (many_at W).2.2.2⟩

set_option maxRecDepth 100000 in
set_option maxHeartbeats 4000000 in
theorem nodes_in (n : Nat) (hn : 1 ≤ n) (l : Nat) (J Jx : List Nod → World → Prop) (W : World) (hN : ∀ pre V o, J pre V → J pre (V.alloc o))
    (hY : ∀ pre x V, J pre V → NodOk pre x → YieldAt Fence.wide (n - 1) Tryd.prog l (encN x) V fun e V' => (e = .returned (.bool true) ∧ J (pre ++ [x]) V' ∧ True) ∨ (e = .returned (.bool false) ∧ Jx (pre ++ [x]) V'))
    (h0 : J [] W) :
    CallsIn Fence.wide n Tryd.prog 43 #[.func (.yield l) #[] #[]] W fun e W' => (∃ v, e = .returned v) ∧
      ((∃ xs, xs = allN ∧ J xs W') ∨ (∃ pre, True ∧ Jx pre W')) := by
  refine callsIn_of_wp Tryd.func43 rfl trivial ?_ rfl
  simp only [Tryd.ntmps43, List.size_toArray, List.length_cons, List.length_nil, Nat.reduceAdd, Nat.reduceSub, Array.replicate_succ, Array.replicate_zero, List.push_toArray, List.append_toArray, List.nil_append, List.cons_append]
  have hd := heap_alloc_new W (.cells #[.int .i64 0, .int .i64 3, .int .i64 6, .int .i64 1] 78)
  have J0 := hN _ _ (.cells #[.int .i64 0, .int .i64 3, .int .i64 6, .int .i64 1] 78) h0
  have HY := Lib.hid hY
  clear hY h0 hN
  gi_wp2
  gi_loopw [8] (fun i wr => ∃ k : Nat, k ≤ 4 ∧ i = .int .i64 (k : Nat) ∧ J (allN.take (offN k)) wr) (fun i _ => 4 - (intOf i).toNat)
  case atStart => exact ⟨0, by omega, rfl, J0⟩
  case round =>
    obtain ⟨k, hk, rfl, hJ⟩ := hrel
    have HJ := Lib.hid hJ
    clear hJ
    by_cases hlt : k < 4
    · obtain ⟨m, o, hm, ho, hok, hok1, hat, hix⟩ := kind_at k hlt
      have HK := Lib.hid (And.intro hok hok1)
      have HA := Lib.hid hat
      have hk4 : (k : Int) < 4 := by omega
      have hx := hix wr
      clear hok hok1 hat hix hk
      gi_wp2
      gi_loopw [13] (fun i wr => ∃ j : Nat, j ≤ m ∧ i = .int .i64 (j : Nat) ∧ J (allN.take (o + j)) wr) (fun i _ => m - (intOf i).toNat)
      case atStart => exact ⟨0, by omega, rfl, HK.out.1 ▸ HJ.out⟩
      case round =>
        obtain ⟨j, hj, rfl, hJ⟩ := hrel
        have HJ2 := Lib.hid hJ
        clear hJ
        by_cases hltj : j < m
        · obtain ⟨fn, tmps, assign, body, hy, hr⟩ := HY.out (allN.take (o + j)) ((k : Int), (j : Int)) _ HJ2.out (nodOk_at k o m ho HA.out j hltj)
          have y := (show (Instr.yield l #[.agg #[.int .u8 (k : Nat), .int .i64 (j : Nat)]]).run Tryd.prog _ = .ok (.round l fn tmps assign body) _ from hy)
          clear hy
          have hlt2 : (j : Int) < (m : Int) := by omega
          gi_wp2
          refine hr.mono ?_
          clear hr y
          rintro e W3 (⟨rfl, J3, _⟩ | ⟨rfl, Jx3⟩)
          · have HJ3 := Lib.hid J3
            clear J3
            gi_wp2
            go_roundw
            case rel => exact ⟨j + 1, by omega, by go_num, by have h := HJ3.out; rwa [take_next k o m HA.out j hltj] at h⟩
            case measure => simp [intOf]; omega
          · gi_wp2
            refine bodyPost_ret (results_none rfl _ _ _) rfl ?_
            exact ⟨⟨_, rfl⟩, .inr ⟨_, trivial, Jx3⟩⟩
        · obtain rfl : j = m := by omega
          clear hltj hj
          gi_wp2
          go_roundw
          case rel => exact ⟨k + 1, by omega, by go_num, HK.out.2 ▸ HJ2.out⟩
          case measure => simp [intOf]; omega
    · obtain rfl : k = 4 := by omega
      clear hlt hk
      gi_wp2
      go_end0
      exact ⟨⟨_, rfl⟩, .inl ⟨_, rfl, HJ.out⟩⟩

theorem nodes_ok (n : Nat) (hn : 1 ≤ n) (w : World) :
    SeqOk Fence.wide n Tryd.prog 43 #[] encN (fun pre x _ => NodOk pre x) (fun _ _ => True) (fun xs => xs = allN) (fun _ => True) w :=
  fun l J Jx W _ hN hY h0 => nodes_in n hn l J Jx W hN hY h0
end Go.Proofs.YthenbpnlmpeafaaDoor
