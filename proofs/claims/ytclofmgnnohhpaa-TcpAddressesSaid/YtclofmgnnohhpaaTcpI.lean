/- What 'handfast/tcp.numbersIn' and the closure that it hands back do: the ten numbers of two bytes that a segment begins with, each with its place. -/
import Derived.Test.YtclofmgnnohhpaaTcpN
import Derived.Stop.RegionWithIn
namespace Go.Proofs.Ytclofmgnnohhpaa
open Go.RowKit Go.Shelf
open SumM

attribute [local go_sem] Oper.semAt_some

/-- The k-th place and number. -/
def ptAt (bs : List Int) (h : In 255 bs) (k : Nat) : PT := if hk : k < 10 then ⟨(2 * k, wordAt bs k), by simp only; omega, wordAt_in h k⟩ else ⟨(0, 0), by decide⟩
theorem ptAt_val {bs : List Int} (h : In 255 bs) {k : Nat} (hk : k < 10) : (ptAt bs h k).1 = (2 * k, wordAt bs k) := by unfold ptAt; rw [dif_pos hk]

set_option maxHeartbeats 1000000 in
theorem tnumbersIn_in (n : Nat) (a : Option Addr) (len cap : Nat) (w : World) :
    CallsIn Fence.wide n Try.prog 19 #[.slice a len cap] w fun e w' => e = .returned (.func (.func 33) #[] #[.pointer (some ⟨w.heap.size, 0, none⟩)]) ∧ w' = w.alloc (.cells #[.slice a len cap] 23) := by
  refine callsIn_of_wp Try.func19 rfl trivial ?_ rfl
  simp only [Try.ntmps19, List.size_toArray, List.length_cons, List.length_nil, Nat.reduceAdd, Nat.reduceSub, Array.replicate_succ, Array.replicate_zero, List.push_toArray, List.append_toArray, List.nil_append, List.cons_append]
  gi_wp2
  go_ret
  exact ⟨rfl, rfl⟩

set_option maxRecDepth 100000 in
set_option maxHeartbeats 4000000 in
theorem tnumsIn_in (n : Nat) (hn : 1 ≤ n) (l Bs n₀ len cap : Nat) (a : Option Addr) (bs : List Int) (hin : In 255 bs) (hl : bs.length = len) (h20 : 20 ≤ len) (J Jx : List PT → World → Prop)
    (hY : ∀ pre x W, J pre W → pre.length < 10 → YieldAt Fence.wide (n - 1) Try.prog l #[.int .i64 x.1.1, .int .u16 x.1.2] W fun e W' =>
      (e = .returned (.bool true) ∧ J (pre ++ [x]) W' ∧ Keep n₀ [Bs] W W') ∨ (e = .returned (.bool false) ∧ Jx (pre ++ [x]) W'))
    (W : World) (hB : Boxed W Bs 23 (.slice a len cap)) (hR : Row .u8 n₀ W a bs) (h0 : J [] W)
    (hJ : ∀ pre W, J pre W → J pre W.drew) :
    CallsIn Fence.wide n Try.prog 33 #[.func (.yield l) #[] #[], .pointer (some ⟨Bs, 0, none⟩)] W fun e W' => (∃ v, e = .returned v) ∧
      ((∃ ys, ys = uptoA (ptAt bs hin) 10 ∧ J ys W') ∨ (∃ pre, pre.length ≤ 10 ∧ Jx pre W')) := by
  have HL := Lib.hid hl
  clear hl
  obtain ⟨b, off, rfl, hb, hcz⟩ := hR.2 (by rw [HL.out]; omega)
  clear hcz
  refine callsIn_of_wp Try.func33 rfl trivial ?_ rfl
  simp only [Try.ntmps33, List.size_toArray, List.length_cons, List.length_nil, Nat.reduceAdd, Nat.reduceSub, Array.replicate_succ, Array.replicate_zero, List.push_toArray, List.append_toArray, List.nil_append, List.cons_append]
  have HY := Lib.hid hY
  have HJ := Lib.hid hJ
  have HB := Lib.hid hB
  have HR := Lib.hid hR
  clear hY hB hR hJ
  gi_wp2
  gi_loopw [3] (fun i wr => ∃ k : Nat, k ≤ 10 ∧ i = .int .i64 (2 * k : Nat) ∧ J (uptoA (ptAt bs hin) k) wr ∧ Keep n₀ [Bs] W wr)
    (fun i _ => 20 - (intOf i).toNat)
  case atStart => exact ⟨0, by omega, rfl, h0, Keep.refl _ _ _⟩
  case round =>
    obtain ⟨k, hk, rfl, hJs, hnx⟩ := hrel
    by_cases hlt10 : k < 10
    · have hcB := (hnx.boxed (by simp) HB.out).cell
      obtain ⟨b', off', e', hb', hc'⟩ := (HR.out.below hnx.1).2 (by rw [HL.out]; omega)
      injection e' with e'
      injection e' with e1 e2
      subst e1 e2
      have q1 := hc' (2 * k) (by rw [HL.out]; omega)
      have q2 := hc' (2 * k + 1) (by rw [HL.out]; omega)
      clear hc'
      have b1 := getD_in hin (by decide) (2 * k)
      have b2 := getD_in hin (by decide) (2 * k + 1)
      have ho := or_word _ _ b1.1 b1.2 b2.1 b2.2
      have HO := Lib.hid ho
      obtain ⟨fn, tmps, assign, body, hy, hRd⟩ := HY.out _ (ptAt bs hin k) wr.drew (HJ.out _ _ hJs) (by rw [uptoA_length]; omega)
      rw [ptAt_val hin hlt10] at hy
      have hk0 : Keep n₀ [Bs] wr wr.drew := ⟨(Below.refl _ _).drew, fun _ _ _ h _ => h⟩
      have FIN : Hid (∀ (e : Ending) (W3 : World), ((e = .returned (.bool true) ∧ J (uptoA (ptAt bs hin) k ++ [ptAt bs hin k]) W3 ∧ Keep n₀ [Bs] wr.drew W3) ∨ (e = .returned (.bool false) ∧ Jx (uptoA (ptAt bs hin) k ++ [ptAt bs hin k]) W3)) →
          ∃ bo : Bool, e = .returned (.bool bo) ∧ Hid ((bo = true → J (uptoA (ptAt bs hin) (k + 1)) W3 ∧ Keep n₀ [Bs] W W3) ∧ (bo = false → Jx (uptoA (ptAt bs hin) (k + 1)) W3))) := Lib.hid (by
        intro e W3 h
        rw [← uptoA_succ] at h
        rcases h with ⟨h1, h2, h3⟩ | ⟨h1, h2⟩
        · refine ⟨true, h1, Lib.hid ?_⟩
          exact ⟨fun _ => ⟨h2, keep_t (keep_t hnx hk0) h3⟩, fun e => (by cases e)⟩
        · refine ⟨false, h1, Lib.hid ?_⟩
          exact ⟨fun e => (by cases e), fun _ => h2⟩)
      clear hk0 HJ
      have q3 : (2 * (k : Int)).toNat = 2 * k := by omega
      have q4 : (2 * (k : Int) + 1).toNat = 2 * k + 1 := by omega
      have q5 : 2 * (k : Int) < (len : Int) := by omega
      have q6 : 2 * (k : Int) + 1 < (len : Int) := by omega
      have q7 : IntKind.i64.wrap (2 * (k : Int) + 1) = 2 * (k : Int) + 1 := IntWalk.i64_in _ (by omega)
      have q8 : (0 : Int) ≤ 2 * (k : Int) := by omega
      have q9 : (0 : Int) ≤ 2 * (k : Int) + 1 := by omega
      have ew : wordAt bs k = bits .or .u16 (IntKind.u16.wrap (IntKind.u16.wrap (bs[2 * k]?.getD 0) * 256)) (IntKind.u16.wrap (bs[2 * k + 1]?.getD 0)) := by
        rw [IntWalk.u16_in (bs[2 * k]?.getD 0) (by omega), IntWalk.u16_in (bs[2 * k]?.getD 0 * 256) (by omega), IntWalk.u16_in (bs[2 * k + 1]?.getD 0) (by omega), ho]
        rfl
      rw [ew] at hy
      have hy' : (Instr.yield l #[.int .i64 (2 * (k : Int)), .int .u16 (bits .or .u16 (IntKind.u16.wrap (IntKind.u16.wrap (bs[2 * k]?.getD 0) * 256)) (IntKind.u16.wrap (bs[2 * k + 1]?.getD 0)))]).run Try.prog wr.drew = .ok (.round l fn tmps assign body) wr.drew := hy
      clear hy
      gi_wp2
      gi_region_with (refine hRd.mono ?_; intro e W3 h; obtain ⟨bo, rfl, hfin⟩ := FIN.out e W3 h)
      all_goals
        rcases bo with _ | _
        · have hx := hfin.out.2 rfl
          clear hfin
          gi_wp2
          refine bodyPost_ret (results_none rfl _ _ _) rfl ?_
          exact ⟨⟨_, rfl⟩, .inr ⟨_, by rw [uptoA_length]; omega, hx⟩⟩
        · obtain ⟨hJ3, hk3⟩ := hfin.out.1 rfl
          clear hfin
          gi_wp2
          go_roundw
          case rel => exact ⟨k + 1, by omega, by go_num, hJ3, hk3⟩
          case measure => simp [intOf]; omega
    · obtain rfl : k = 10 := by omega
      gi_wp2
      go_end0
      exact ⟨⟨_, rfl⟩, .inl ⟨_, rfl, hJs⟩⟩
theorem tnumsIn_stops (n : Nat) (hn : 1 ≤ n) (Bs n₀ len cap : Nat) (a : Option Addr) (bs : List Int) (hin : In 255 bs) (hl : bs.length = len) (h20 : 20 ≤ len) (w : World) (hn₀ : n₀ ≤ w.heap.size)
    (hB : Boxed w Bs 23 (.slice a len cap)) (hR : Row .u8 n₀ w a bs) :
    SeqStopsK Fence.wide n Try.prog 33 #[.pointer (some ⟨Bs, 0, none⟩)] (fun x : PT => #[.int .i64 x.1.1, .int .u16 x.1.2]) (Keep n₀ [Bs]) (fun ys => ys = uptoA (ptAt bs hin) 10) (fun pre => pre.length ≤ 10) 10 w := fun l J Jx W hW hJ _ hY h0 =>
  tnumsIn_in n hn l Bs n₀ len cap a bs hin hl h20 J Jx hY W ((hW.block Bs hB.lt).trans hB) (hR.below (hW.mono hn₀)) h0 (fun pre V h => hJ pre V V.drew none h ⟨rfl, rfl, rfl, Nat.le_refl _, fun _ _ _ => rfl⟩ (fun r e => by cases e))
end Go.Proofs.Ytclofmgnnohhpaa
