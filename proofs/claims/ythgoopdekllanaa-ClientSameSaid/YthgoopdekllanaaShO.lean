/- Bytes in parts: slices.Chunk of bytes, thirteen by thirteen. -/
import Derived.Test.YthgoopdekllanaaShK
namespace Go.Proofs.Ythgoopdekllanaa
open Go.RowKit Go.Shelf
open SumM

attribute [local go_sem] Oper.semAt_some

set_option maxRecDepth 100000 in
set_option maxHeartbeats 2000000 in
theorem chunk_in (n : Nat) (a : Option Addr) (len cap : Nat) (w : World) :
    CallsIn Fence.wide n Try.prog 71 #[.slice a len cap, .int .i64 13] w fun e w' => e = .returned (.func (.func 80) #[] #[.pointer (some ⟨w.heap.size, 0, none⟩), .pointer (some ⟨w.heap.size + 1, 0, none⟩)]) ∧ w' = (w.alloc (.cells #[.slice a len cap] 30)).alloc (.cells #[.int .i64 13] 3) := by
  refine callsIn_of_wp Try.func71 rfl trivial ?_ rfl
  simp only [Try.ntmps71, List.size_toArray, List.length_cons, List.length_nil, Nat.reduceAdd, Nat.reduceSub, Array.replicate_succ, Array.replicate_zero, List.push_toArray, List.append_toArray, List.nil_append, List.cons_append]
  gi_wp2
  go_ret
  exact ⟨rfl, rfl⟩

/-- What is handed out: thirteen bytes. -/
def encC (b off : Nat) (k : Nat) : Array Value := #[.slice (some ⟨b, off + 13 * k, none⟩) 13 13]

set_option maxRecDepth 100000 in
set_option maxHeartbeats 4000000 in
theorem chunkIter_in (n : Nat) (hn : 1 ≤ n) (b off m L cap nb nc n0 : Nat) (hLm : L = 13 * m) (hm : m ≤ 1000) (hc : L ≤ cap) (l : Nat) (J Jx : List Nat → World → Prop) (W : World) (hb : W.heap[nb]? = some (.cells #[.slice (some ⟨b, off, none⟩) L cap] 30 (0, 0))) (hb' : W.heap[nc]? = some (.cells #[.int .i64 13] 3 (0, 0)))
    (hN : ∀ pre V V', J pre V → Below V.heap.size V V' → J pre V')
    (hY : ∀ pre x V, J pre V → (x = pre.length ∧ x < m) → YieldAt Fence.wide (n - 1) Try.prog l (encC b off x) V fun e V' => (e = .returned (.bool true) ∧ J (pre ++ [x]) V' ∧ KeepT n0 bTs V V') ∨ (e = .returned (.bool false) ∧ Jx (pre ++ [x]) V'))
    (h0 : J [] W) :
    CallsIn Fence.wide n Try.prog 80 (#[.func (.yield l) #[] #[]] ++ #[.pointer (some ⟨nb, 0, none⟩), .pointer (some ⟨nc, 0, none⟩)]) W fun e W' => (∃ v, e = .returned v) ∧
      ((∃ xs, xs = List.range m ∧ J xs W') ∨ (∃ pre, True ∧ Jx pre W')) := by
  refine callsIn_of_wp Try.func80 rfl trivial ?_ rfl
  simp only [Try.ntmps80, List.size_toArray, List.length_cons, List.length_nil, Nat.reduceAdd, Nat.reduceSub, Array.replicate_succ, Array.replicate_zero, List.push_toArray, List.append_toArray, List.nil_append, List.cons_append]
  have HN := Lib.hid hN
  have HY := Lib.hid hY
  have HB := Lib.hid hb
  have HC := Lib.hid hb'
  clear hN hY hb hb'
  have HM := Lib.hid (And.intro hLm hm)
  have hL2 : L ≤ 13000 := by omega
  clear hLm hm
  gi_wp2
  gi_loopw [4] (fun i wr => ∃ k j : Nat, j = 13 * k ∧ k ≤ m ∧ i = .int .i64 (j : Int) ∧ J (List.range k) wr ∧ KeepT n0 bTs W wr) (fun i _ => L - (intOf i).toNat)
  case atStart => exact ⟨0, 0, rfl, by omega, rfl, h0, KeepT.refl _ _ _⟩
  case round =>
    obtain ⟨k, j, hj, hk, rfl, hJ, hK⟩ := hrel
    have HJ := Lib.hid hJ
    have HK := Lib.hid hK
    have bx := hK.2 _ _ _ _ (by decide) HB.out
    have bc := hK.2 _ _ _ _ (by decide) HC.out
    have cx := cell_of_one bx
    have cc := cell_of_one bc
    clear hJ hK bx bc
    by_cases hlt : k < m
    · have g1 : j + 13 ≤ L := by have := HM.out; omega
      have HKJ := Lib.hid (And.intro hj (And.intro hk hlt))
      have g4 : (j : Int) < (L : Int) := by omega
      have g5 : (0 : Int) ≤ (j : Int) := by omega
      have g6 : (j : Int) ≤ (L : Int) := by omega
      have g7 : (j : Int) ≤ (cap : Int) := by omega
      have g8 : (j : Int) + 13 ≤ (cap : Int) := by omega
      have g9 : cap ≠ j := by omega
      have g10 : j ≤ L := by omega
      have g11 : (13 : Int) ≤ ((L - j : Nat) : Int) := by omega
      clear hj hlt hk
      gi_wp2
      gi_quiet (fail)
      have hD : Below wr.heap.size wr (wr.drewN nq) := ⟨rfl, rfl, rfl, Nat.le_refl _, fun _ _ => rfl⟩
      have JV := HN.out _ _ _ HJ.out hD
      have KV : KeepT n0 bTs W (wr.drewN nq) := ⟨HK.out.1.trans ⟨rfl, rfl, rfl, Nat.le_refl _, fun _ _ => rfl⟩, fun b' c t r ht hb => HK.out.2 b' c t r ht hb⟩
      have cx2 : (wr.drewN nq).cell? ⟨nb, 0, none⟩ = some (.slice (some ⟨b, off, none⟩) L cap) := cx
      have cc2 : (wr.drewN nq).cell? ⟨nc, 0, none⟩ = some (.int .i64 13) := cc
      clear cx cc hD
      generalize wr.drewN nq = V at *
      have HKV := Lib.hid KV
      obtain ⟨fn, tmps, assign, body, hy, hr⟩ := HY.out (List.range k) k V JV ⟨by simp, HKJ.out.2.2⟩
      have y : (Instr.yield l #[.slice (some ⟨b, off + j, none⟩) 13 13]).run Try.prog V = .ok (.round l fn tmps assign body) V := by rw [HKJ.out.1]; exact hy
      have HR := Lib.hid hr
      clear hy hr KV JV
      gi_wp2
      refine HR.out.mono ?_
      clear HR y cx2 cc2
      rintro e V3 (⟨rfl, j3, k3⟩ | ⟨rfl, jx⟩)
      · have cc3 := cell_of_one (k3.2 _ _ _ _ (by decide) (HKV.out.2 _ _ _ _ (by decide) HC.out))
        have HJ3 := Lib.hid j3
        have HK3 := Lib.hid (keepT_t HKV.out k3)
        clear j3 k3
        gi_wp2
        go_roundw
        case rel => exact ⟨k + 1, j + 13, by have := HKJ.out; omega, by have := HKJ.out; omega, by go_num, by rw [List.range_succ]; exact HJ3.out, HK3.out⟩
        case measure => simp [intOf]; omega
      · have HJ3 := Lib.hid jx
        clear jx
        gi_wp2
        refine bodyPost_ret (results_none rfl _ _ _) rfl ?_
        exact ⟨⟨_, rfl⟩, .inr ⟨_, trivial, HJ3.out⟩⟩
    · have hjL : j = L := by have := HM.out; omega
      subst hjL
      have e : k = m := by omega
      have HE := Lib.hid e
      clear e hj hlt hk
      gi_wp2
      go_end0
      exact ⟨⟨_, rfl⟩, .inl ⟨_, rfl, by rw [← HE.out]; exact HJ.out⟩⟩
end Go.Proofs.Ythgoopdekllanaa
