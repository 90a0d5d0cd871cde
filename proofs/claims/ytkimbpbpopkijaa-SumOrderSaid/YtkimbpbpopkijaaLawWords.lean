/- 'handfastlaw01.SumWords' returns true at every slice of bytes, and leaves what lay as it lay. -/
import Derived.Test.YtkimbpbpopkijaaWakes
import Derived.Test.YtkimbpbpopkijaaOpen
namespace Go.Proofs.Ytkimbpbpopkijaa
open Go.RowKit
open SumM

theorem Try.infoU8 : (Try.prog.info? 5).map (fun i => (i.zero, i.size, i.bytes)) = some (some (.int .u8 0), 1, 1) := by kernel_rfl

set_option maxRecDepth 100000 in
set_option maxHeartbeats 1000000 in
theorem sumWords_walk (a0 : Option Addr) (len0 cap0 : Nat) (z0 : List Int) (w : World) (w0 : IsRow .u8 w a0 len0 cap0 z0) :
    Calls Try.prog 7 #[.slice a0 len0 cap0] w fun e w' => e = .returned (.bool true) ∧ Below w.heap.size w w' := by
  obtain ⟨hr, hl, hn0, hlc, hm⟩ := w0.row
  clear w0
  generalize hbs : z0.take len0 = bs at *
  clear hbs
  have hin : In 255 bs := fun x hx => wf_u8.1 (hr.1 x hx)
  have HL := Lib.hid hl
  have HN := Lib.hid hn0
  clear hl hn0
  unfold maxLen at hm
  by_cases hbig : 3000 < len0
  · go_enter Try.func7, Try.ntmps7
    go_wp2_with (go_at_call 8; refine (wakes_any _).mono ?_; rintro e w1 ⟨rfl, hb1⟩)
    go_ret
    exact ⟨rfl, hb1⟩
  · go_enter Try.func7, Try.ntmps7
    go_wp2_with fail
    refine (words_any _ _ _ bs HL.out (by omega) _ hr).mono ?_
    rintro e w1 ⟨a1, c1, rfl, r1, m1⟩
    have r0 := hr.step m1
    have hwl : (words bs).length = (len0 + 1) / 2 := by rw [words_length, HL.out]
    generalize hwn : (words bs).length = wn at *
    have HWN := Lib.hid hwn
    clear hwn
    have hne : ((wn : Int) != ((len0 : Int) + 1) / 2) = false := by simp; omega
    have hwb : wn ≤ 4000000 := by omega
    have HWL := Lib.hid hwl
    clear hwl
    go_wp2_with fail
    refine (sum_any _ _ _ bs HL.out (by omega) _ r0).mono ?_
    rintro e w2 ⟨rfl, m2⟩
    have r1 := r1.step m2
    have r0 := r0.step m2
    go_wp2_with fail
    refine (fold_any _ _ _ _ (words bs) _ r1 HWN.out (by omega)).mono ?_
    rintro e w3 ⟨rfl, rfl⟩
    have heq : (sumOf bs != cr (tot (words bs))) = false := by simp [sumOf]
    go_wp2_with fail
    go_loopw [4] (fun i wr => ∃ k : Nat, k ≤ wn ∧ i = .int .i64 k ∧ ∃ n, wr = w2.drewN n) (fun i _ => wn - (intOf i).toNat)
    case atStart => exact ⟨0, Nat.zero_le _, rfl, 0, rfl⟩
    case round =>
      obtain ⟨k, hk, rfl, n, rfl⟩ := hrel
      by_cases hlt : k < wn
      · have hx0 := getD_in hin (by decide) (2 * k)
        have hx1 := getD_in hin (by decide) (2 * k + 1)
        have hk2 : 2 * k < len0 := by have := HWL.out; omega
        obtain ⟨b0, o0, rfl, _, hc0⟩ := r0.2 (by rw [HL.out]; omega)
        obtain ⟨b1, o1, rfl, _, hc1⟩ := r1.2 (by rw [HWN.out]; omega)
        have hcw := hc1 k (by rw [HWN.out]; omega)
        have ew : (words bs)[k]?.getD 0 = 256 * bs[2 * k]?.getD 0 + bs[2 * k + 1]?.getD 0 := by
          unfold words
          rw [upto_get _ _ _ (by rw [HL.out]; have := HWL.out; omega)]
          rfl
        rw [ew] at hcw
        have hcx := hc0 (2 * k) (by rw [HL.out]; omega)
        clear ew
        by_cases h1 : 2 * k + 1 < len0
        · have hcy := hc0 (2 * k + 1) (by rw [HL.out]; omega)
          clear hc0 hc1 r0 r1
          go_wp2
          have q1 : IntKind.i64.wrap (2 * (k : Int)) = 2 * (k : Int) := IntWalk.i64_in _ (by omega)
          have q2 : 0 ≤ 2 * (k : Int) := by omega
          have q3 : (2 * (k : Int)).toNat = 2 * k := by omega
          have q4 : 2 * (k : Int) < (len0 : Int) := by omega
          have q5 : (IntKind.u8.wrap ((256 * bs[2 * k]?.getD 0 + bs[2 * k + 1]?.getD 0) / 256) != bs[2 * k]?.getD 0) = false := by
            rw [IntWalk.u8_in _ (by omega)]; simp; omega
          have q6 : (IntKind.u8.wrap (256 * bs[2 * k]?.getD 0 + bs[2 * k + 1]?.getD 0) != bs[2 * k + 1]?.getD 0) = false := by
            rw [IntKind.wrap_u8]; simp; omega
          go_quiet (fail)
          clear q1 q2 q3 q4 q5 q6
          go_wp2
          go_roundw
          case rel => exact ⟨k + 1, by omega, by go_num, _, rfl⟩
          case measure => simp [intOf]; omega
        · have ey : bs[2 * k + 1]?.getD 0 = 0 := by rw [List.getElem?_eq_none (by rw [HL.out]; omega)]; rfl
          rw [ey] at hcw hx1
          clear hc0 hc1 r0 r1 ey
          go_wp2
          have q1 : IntKind.i64.wrap (2 * (k : Int)) = 2 * (k : Int) := IntWalk.i64_in _ (by omega)
          have q2 : 0 ≤ 2 * (k : Int) := by omega
          have q3 : (2 * (k : Int)).toNat = 2 * k := by omega
          have q4 : 2 * (k : Int) < (len0 : Int) := by omega
          have q5 : (IntKind.u8.wrap ((256 * bs[2 * k]?.getD 0 + 0) / 256) != bs[2 * k]?.getD 0) = false := by
            rw [IntWalk.u8_in _ (by omega)]; simp
          have q6 : (IntKind.u8.wrap (256 * bs[2 * k]?.getD 0 + 0) != 0) = false := by
            rw [IntKind.wrap_u8]; simp
          simp only [Int.add_zero] at hcw q5 q6
          go_quiet (fail)
          clear q1 q2 q3 q4 q5 q6
          go_wp2
          go_roundw
          case rel => exact ⟨k + 1, by omega, by go_num, _, rfl⟩
          case measure => simp [intOf]; omega
      · obtain rfl : k = wn := by omega
        have L : Below w.heap.size w (w2.drewN n) := below_dr (m1.trans (m2.mono m1.size)) n
        clear r0 r1 m1 m2
        generalize w2.drewN n = W at *
        obtain ⟨i0, hi, hz0, hz1, hz2⟩ := info_parts Try.infoU8
        by_cases hodd : len0 % 2 = 1
        · have HO := Lib.hid hodd
          clear hodd
          have ho : ((len0 : Int) % 2 == 1) = true := by have := HO.out; simp; omega
          go_wp2_with (first
            | (at_builtin; refine wpList_append_row _ rfl (.tmp 66) (.tmp 67) 22 rfl w.heap.size 5 i0 (.int .u8 0) 1 Try.underlying22 hi hz0 hz1 hz2 rfl _ 0 [] rfl (own_built W w.heap.size L.size 5 [] 0 rfl (by unfold maxLen; omega)) .u8 _ _ _ _ bs rfl HL.out (hr.below (L.alloc L.size _)) HN.out (by unfold maxLen; omega) (by omega) (by have := L.size; simp; omega) ?_; intro v1 w3 hown1 hgrow1; simp only [Nat.zero_add, List.nil_append] at hown1; have L1 := (L.alloc L.size (.cells #[] 5)).grown hgrow1 (by have := L.size; simp; omega) (fun j hj => by cases hj; exact L.size))
            | (at_builtin; refine wpList_append_row _ rfl (.tmp 68) (.tmp 69) 22 rfl w.heap.size 5 i0 (.int .u8 0) 1 Try.underlying22 hi hz0 hz1 hz2 rfl _ _ _ rfl (hown1.alloc _) .u8 _ _ 2 2 [0, 0] rfl rfl (Row.built .u8 w3 5 [0, 0] (by decide)) (fun h => by cases h) (by unfold maxLen; omega) (by omega) (by have := L1.size; simp; omega) ?_; intro v2 w4 hown2 hgrow2; have L2 := below_append L1 L1.size hown1 hgrow2)
            | (go_at_call 8; refine (wakes_any _).mono ?_; rintro e w5 ⟨rfl, m5⟩))
          go_ret
          exact ⟨rfl, L2.trans (m5.mono L2.size)⟩
        · have HO := Lib.hid (show bs.length % 2 = 0 by rw [HL.out]; omega)
          have ho : ((len0 : Int) % 2 == 1) = false := by simp; omega
          clear hodd
          go_wp2_with (first
            | (at_builtin; refine wpList_append_row _ rfl (.tmp 66) (.tmp 67) 22 rfl w.heap.size 5 i0 (.int .u8 0) 1 Try.underlying22 hi hz0 hz1 hz2 rfl _ 0 [] rfl (own_built W w.heap.size L.size 5 [] 0 rfl (by unfold maxLen; omega)) .u8 _ _ _ _ bs rfl HL.out (hr.below (L.alloc L.size _)) HN.out (by unfold maxLen; omega) (by omega) (by have := L.size; simp; omega) ?_; intro v1 w3 hown1 hgrow1; simp only [Nat.zero_add, List.nil_append] at hown1; have L1 := (L.alloc L.size (.cells #[] 5)).grown hgrow1 (by have := L.size; simp; omega) (fun j hj => by cases hj; exact L.size))
            | (at_builtin; refine wpList_append_row _ rfl (.tmp 68) (.tmp 69) 22 rfl w.heap.size 5 i0 (.int .u8 0) 1 Try.underlying22 hi hz0 hz1 hz2 rfl _ _ _ rfl (hown1.alloc _) .u8 _ _ 2 2 [0, 0] rfl rfl (Row.built .u8 w3 5 [0, 0] (by decide)) (fun h => by cases h) (by unfold maxLen; omega) (by omega) (by have := L1.size; simp; omega) ?_; intro v2 w4 hown2 hgrow2; have L2 := below_append L1 L1.size hown1 hgrow2; obtain ⟨a2, c2, rfl⟩ := own_slice hown2))
          have hown3 : w4.ownsRow w.heap.size 5 1 (.slice a2 (len0 + 2) c2) (len0 + 2) ((bs ++ [0, 0]).map (Value.int .u8)) := by simpa using hown2
          have hin2 : In 255 (bs ++ [0, 0]) := by
            intro x hx
            rcases List.mem_append.1 hx with h | h
            · exact hin x h
            · simp at h
              omega
          refine (sum_any _ _ _ (bs ++ [0, 0]) (by simp [HL.out]) (by omega) _ (Row.of_own hown3 (in_wf8 hin2))).mono ?_
          rintro e w5 ⟨rfl, m5⟩
          have L3 := L2.trans (m5.mono L2.size)
          clear hown2 hown3 hown1 m5 hgrow1 hgrow2
          go_wp2_with fail
          refine (sum_any _ _ _ bs HL.out (by omega) _ ((hr.below L3).more L3.size)).mono ?_
          rintro e w6 ⟨rfl, m6⟩
          have L4 := L3.trans (m6.mono L3.size)
          have hq : (sumOf (bs ++ [0, 0]) == sumOf bs) = true := by rw [sum_zeros bs HO.out]; simp
          clear L1 L2 L3 m6
          go_wp2_with (go_at_call 8; refine (wakes_any _).mono ?_; rintro e w7 ⟨rfl, m7⟩)
          go_ret
          exact ⟨rfl, L4.trans (m7.mono L4.size)⟩
end Go.Proofs.Ytkimbpbpopkijaa
