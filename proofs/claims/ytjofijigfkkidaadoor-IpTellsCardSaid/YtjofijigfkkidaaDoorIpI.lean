/- What 'handfast/ip.numbersIn' and the closure that it hands back do: the ten numbers that bytes begin with, each with its place. -/
import Derived.Test.YtjofijigfkkidaaDoorIpN
namespace Go.Proofs.YtjofijigfkkidaaDoor
open Go.RowKit Go.Shelf
open SumM

attribute [local go_sem] Oper.semAt_some

/-- Where the i-th number begins. -/
def offAt (i : Nat) : Nat := [0, 1, 2, 4, 6, 8, 9, 10, 12, 16, 20][i]?.getD 20
theorem offAt_succ (k : Nat) (hk : k < 10) : offAt (k + 1) = offAt k + widthAt k ∧ offAt k + widthAt k ≤ 20 := by
  obtain rfl | rfl | rfl | rfl | rfl | rfl | rfl | rfl | rfl | rfl : k = 0 ∨ k = 1 ∨ k = 2 ∨ k = 3 ∨ k = 4 ∨ k = 5 ∨ k = 6 ∨ k = 7 ∨ k = 8 ∨ k = 9 := by omega
  all_goals decide
/-- The i-th number that bytes begin with. -/
def segAt (bs : List Int) (i : Nat) : Int := numOf ((bs.drop (offAt i)).take (widthAt i))
theorem in_take {m : Int} {l : List Int} (h : In m l) (i : Nat) : In m (l.take i) := fun x hx => h x (List.mem_of_mem_take hx)
theorem in_drop {m : Int} {l : List Int} (h : In m l) (i : Nat) : In m (l.drop i) := fun x hx => h x (List.mem_of_mem_drop hx)
theorem segAt_in {bs : List Int} (h : In 255 bs) (i : Nat) : 0 ≤ segAt bs i ∧ segAt bs i ≤ 4294967295 := by
  have := numOf_in ((bs.drop (offAt i)).take (widthAt i)) (in_take (in_drop h _) _)
  have hl : ((bs.drop (offAt i)).take (widthAt i)).length ≤ 4 := by
    have := widthAt_is i
    simp only [List.length_take]
    omega
  have hp : (256 : Int) ^ ((bs.drop (offAt i)).take (widthAt i)).length ≤ 256 ^ 4 := by
    generalize ((bs.drop (offAt i)).take (widthAt i)).length = m at hl
    obtain rfl | rfl | rfl | rfl | rfl : m = 0 ∨ m = 1 ∨ m = 2 ∨ m = 3 ∨ m = 4 := by omega
    all_goals decide
  exact ⟨this.1, by have h2 := this.2; have e : (256 : Int) ^ 4 = 4294967296 := by decide
                    unfold segAt; omega⟩
/-- A place and a number. -/
abbrev PN := { x : Nat × Int // x.1 < 10 ∧ 0 ≤ x.2 ∧ x.2 ≤ 4294967295 }
def pnAt (bs : List Int) (h : In 255 bs) (i : Nat) : PN := if hi : i < 10 then ⟨(i, segAt bs i), hi, segAt_in h i⟩ else ⟨(0, 0), by decide⟩
theorem pnAt_val {bs : List Int} (h : In 255 bs) {i : Nat} (hi : i < 10) : (pnAt bs h i).1 = (i, segAt bs i) := by unfold pnAt; rw [dif_pos hi]

set_option maxHeartbeats 1000000 in
theorem numbersIn_in (n : Nat) (a : Option Addr) (len cap : Nat) (w : World) :
    CallsIn Fence.wide n Tryd.prog 30 #[.slice a len cap] w fun e w' => e = .returned (.func (.func 40) #[] #[.pointer (some ⟨w.heap.size, 0, none⟩)]) ∧ w' = w.alloc (.cells #[.slice a len cap] 24) := by
  refine callsIn_of_wp Tryd.func30 rfl trivial ?_ rfl
  simp only [Tryd.ntmps30, List.size_toArray, List.length_cons, List.length_nil, Nat.reduceAdd, Nat.reduceSub, Array.replicate_succ, Array.replicate_zero, List.push_toArray, List.append_toArray, List.nil_append, List.cons_append]
  gi_wp2
  go_ret
  exact ⟨rfl, rfl⟩

set_option maxRecDepth 100000 in
set_option maxHeartbeats 4000000 in
theorem numsIn_in (n : Nat) (hn : 1 ≤ n) (l Bs n₀ len cap : Nat) (a : Option Addr) (bs : List Int) (hin : In 255 bs) (hl : bs.length = len) (h20 : 20 ≤ len) (hlc : len ≤ cap) (hs : cap ≤ 9223372036854775807) (J Jx : List PN → World → Prop)
    (hY : ∀ pre x W, J pre W → pre.length < 10 → YieldAt Fence.wide (n - 1) Tryd.prog l #[.int .i64 x.1.1, .int .u32 x.1.2] W fun e W' =>
      (e = .returned (.bool true) ∧ J (pre ++ [x]) W' ∧ Keep n₀ [Bs] W W') ∨ (e = .returned (.bool false) ∧ Jx (pre ++ [x]) W'))
    (W : World) (hB : Boxed W Bs 24 (.slice a len cap)) (hR : Row .u8 n₀ W a bs) (hW : Wid W) (h0 : J [] W) :
    CallsIn Fence.wide n Tryd.prog 40 #[.func (.yield l) #[] #[], .pointer (some ⟨Bs, 0, none⟩)] W fun e W' => (∃ v, e = .returned v) ∧
      ((∃ ys, ys = uptoA (pnAt bs hin) 10 ∧ J ys W') ∨ (∃ pre, pre.length ≤ 10 ∧ Jx pre W')) := by
  have HL := Lib.hid hl
  clear hl
  obtain ⟨b, off, rfl, hb, hcz⟩ := hR.2 (by rw [HL.out]; omega)
  clear hcz
  refine callsIn_of_wp Tryd.func40 rfl trivial ?_ rfl
  simp only [Tryd.ntmps40, List.size_toArray, List.length_cons, List.length_nil, Nat.reduceAdd, Nat.reduceSub, Array.replicate_succ, Array.replicate_zero, List.push_toArray, List.append_toArray, List.nil_append, List.cons_append]
  have g0 : W.cell? ⟨0, 0, none⟩ = some (.int .i64 1) := hW 0 (by decide)
  have g1 : W.cell? ⟨0, 1, none⟩ = some (.int .i64 1) := hW 1 (by decide)
  have g2 : W.cell? ⟨0, 2, none⟩ = some (.int .i64 2) := hW 2 (by decide)
  have g3 : W.cell? ⟨0, 3, none⟩ = some (.int .i64 2) := hW 3 (by decide)
  have g4 : W.cell? ⟨0, 4, none⟩ = some (.int .i64 2) := hW 4 (by decide)
  have g5 : W.cell? ⟨0, 5, none⟩ = some (.int .i64 1) := hW 5 (by decide)
  have g6 : W.cell? ⟨0, 6, none⟩ = some (.int .i64 1) := hW 6 (by decide)
  have g7 : W.cell? ⟨0, 7, none⟩ = some (.int .i64 2) := hW 7 (by decide)
  have g8 : W.cell? ⟨0, 8, none⟩ = some (.int .i64 4) := hW 8 (by decide)
  have g9 : W.cell? ⟨0, 9, none⟩ = some (.int .i64 4) := hW 9 (by decide)
  have HY := Lib.hid hY
  have HB := Lib.hid hB
  have HR := Lib.hid hR
  clear hY hB hR hW
  gi_wp2
  clear g0 g1 g2 g3 g4 g5 g6 g7 g8 g9
  gi_loopw [3, 7] (fun t i wr => ∃ k : Nat, k ≤ 10 ∧ i = .int .i64 k ∧ t = .int .i64 (offAt k) ∧ J (uptoA (pnAt bs hin) k) wr ∧ Keep n₀ [Bs] W wr)
    (fun _ i _ => 10 - (intOf i).toNat)
  case atStart => exact ⟨0, by omega, rfl, rfl, h0, Keep.refl _ _ _⟩
  case round =>
    obtain ⟨k, hk, rfl, rfl, hJs, hnx⟩ := hrel
    by_cases hlt10 : k < 10
    · have hcB := (hnx.boxed (by simp) HB.out).cell
      have hRr := HR.out.below hnx.1
      obtain ⟨ho1, ho2⟩ := offAt_succ k hlt10
      have hix := run_widths k hlt10 wr
      have hw4 := widthAt_is k
      have HN := Lib.hid (numberIn_any (some ⟨b, off + offAt k, none⟩) (widthAt k) (cap - offAt k) n₀ ((bs.drop (offAt k)).take (widthAt k)) wr ((hRr.drop _).take _) (by simp; rw [HL.out]; omega) (by omega))
      obtain ⟨fn, tmps, assign, body, hy, hRd⟩ := HY.out _ (pnAt bs hin k) wr hJs (by rw [uptoA_length]; omega)
      rw [pnAt_val hin hlt10] at hy
      have hy' : (Instr.yield l #[.int .i64 k, .int .u32 (numOf ((bs.drop (offAt k)).take (widthAt k)))]).run Tryd.prog wr = .ok (.round l fn tmps assign body) wr := hy
      clear hy
      have FIN : Hid (∀ (e : Ending) (W3 : World), ((e = .returned (.bool true) ∧ J (uptoA (pnAt bs hin) k ++ [pnAt bs hin k]) W3 ∧ Keep n₀ [Bs] wr W3) ∨ (e = .returned (.bool false) ∧ Jx (uptoA (pnAt bs hin) k ++ [pnAt bs hin k]) W3)) →
          (e = .returned (.bool true) ∧ Hid (J (uptoA (pnAt bs hin) (k + 1)) W3) ∧ Hid (Keep n₀ [Bs] W W3)) ∨ (e = .returned (.bool false) ∧ Hid (Jx (uptoA (pnAt bs hin) (k + 1)) W3))) := Lib.hid (by
        intro e W3 h
        rw [← uptoA_succ] at h
        exact h.imp (fun h => ⟨h.1, Lib.hid h.2.1, Lib.hid (keep_t hnx h.2.2)⟩) (fun h => ⟨h.1, Lib.hid h.2⟩))
      clear hRr
      have hnn : (0 : Int) ≤ (offAt k : Int) := by omega
      gi_wp2
      refine ⟨trivial, (callsIn_wide.2 HN.out).mono ?_⟩
      rintro e w1 ⟨rfl, rfl⟩
      gi_wp2
      refine hRd.mono ?_
      intro e W3 h
      rcases FIN.out e W3 h with ⟨rfl, hJ3, hk3⟩ | ⟨rfl, hJx3⟩
      · gi_wp2
        go_roundw
        case rel => exact ⟨k + 1, by omega, by go_num, by rw [ho1]; go_num, hJ3.out, hk3.out⟩
        case measure => simp [intOf]; omega
      · gi_wp2
        refine bodyPost_ret (results_none rfl _ _ _) rfl ?_
        exact ⟨⟨_, rfl⟩, .inr ⟨_, by rw [uptoA_length]; omega, hJx3.out⟩⟩
    · obtain rfl : k = 10 := by omega
      gi_wp2
      go_end0
      exact ⟨⟨_, rfl⟩, .inl ⟨_, rfl, hJs⟩⟩
end Go.Proofs.YtjofijigfkkidaaDoor
