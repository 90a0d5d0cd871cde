/- What the document says of 0 and 1, and of a new hasher ('handfastlaw08.wakes'). -/
import Derived.Test.YtklmlpnccbmpnaaHsE
namespace Go.Proofs.Ytklmlpnccbmpnaa
open Go.RowKit Go.Shelf
open SumM

theorem made_zeroH (n : Nat) : (madeCells (Value.int .u8 0).cells (n * 1)).toList = (List.replicate n (0 : Int)).map (Value.int .u8) := by
  apply List.ext_getElem
  · simp [size_madeCells]
  · intro k h1 h2
    simp [madeCells, Value.cells, Nat.mod_one]
theorem zero_ok : UNums 0 0 0 0 := ⟨by decide, by decide, by decide, by decide⟩
theorem hTurn_at {c d : Int} (h : 0 ≤ c ∧ c ≤ 255) (e : trn c = d) (w : World) : Calls Try.prog 15 #[.int .u8 c] w fun e w' => e = .returned (.int .u8 d) ∧ Below w.heap.size w w' := e ▸ hTurn_any c h w
theorem hUnturn_at {c d : Int} (h : 0 ≤ c ∧ c ≤ 255) (e : unt c = d) (w : World) : Calls Try.prog 17 #[.int .u8 c] w fun e w' => e = .returned (.int .u8 d) ∧ Below w.heap.size w w' := e ▸ hUnturn_any c h w
theorem hGo10 (w : World) : Calls Try.prog 19 #[.int .u8 0, .slice (some ⟨w.heap.size, 0, none⟩) 2 2] (w.alloc (.cells #[.int .u8 1, .int .u8 0] 5)) fun e w' => e = .returned (.int .u8 175) ∧ Below w.heap.size w w' := by
  refine (hGo_any 0 (by decide) (some ⟨w.heap.size, 0, none⟩) 2 2 (w.heap.size + 1) [1, 0] (w.alloc (.cells #[.int .u8 1, .int .u8 0] 5)) (Row.built .u8 w 5 [1, 0] (by decide)) rfl (by omega)).mono ?_
  rintro e w' ⟨rfl, m⟩
  have L := (Below.refl w.heap.size w).alloc (Nat.le_refl _) (.cells #[.int .u8 1, .int .u8 0] 5)
  exact ⟨by rw [wakes_nums.2.2.2.1], L.trans (m.mono L.size)⟩
theorem hGo7 (w : World) : Calls Try.prog 19 #[.int .u8 7, .slice none 0 0] w fun e w' => e = .returned (.int .u8 7) ∧ Below w.heap.size w w' := hGo_any 7 (by decide) none 0 0 0 [] w (Row.nil _ _ _ _) rfl (by omega)
theorem in12 : ∀ x ∈ List.replicate 12 (0 : Int), (Lit.int .u8 x).wf = true := by decide
theorem refGo12 (w : World) (a : Option Addr) (h : Row .u8 w.heap.size w a (List.replicate 12 0)) : Calls Try.prog 20 #[.int .u8 0, .slice a 12 12] w fun e w' => e = .returned (.int .u8 (sumU 0 0 0 0)) ∧ w = w' := by
  have h1 := r8Go_any 0 (by decide) a 12 12 _ (List.replicate 12 0) w h rfl (by omega)
  rwa [wakes_nums.2.2.2.2.2] at h1
theorem hSame00 (w : World) : Calls Try.prog 24 #[.agg #[.int .u32 0, .int .u32 0, .int .u16 0, .int .u16 0], .agg #[.int .u32 0, .int .u32 0, .int .u16 0, .int .u16 0]] w fun e w' => e = .returned (.bool true) ∧ Below w.heap.size w w' := by
  have h := hSame_any 0 0 0 0 0 0 0 0 zero_ok zero_ok w
  rwa [show (ofU 0 0 0 0 == ofU 0 0 0 0) = true by simp] at h

set_option maxRecDepth 100000 in
set_option maxHeartbeats 16000000 in
theorem hwakes_any (w : World) : Calls Try.prog 9 #[] w fun e w' => e = .returned (.bool true) ∧ Below w.heap.size w w' := by
  obtain ⟨i0, hii, hz0, hz1, hz2⟩ := info_parts Try.infoU8
  have K0 := Lib.hid (hNew_any w)
  go_enter Try.func9, Try.ntmps9
  go_wp2_with (fail)
  refine K0.out.mono ?_
  rintro e w1 ⟨B, rfl, hB, hi, m1⟩
  clear K0
  have K1 := Lib.hid (hrMade_any B 0 w1 hi)
  go_wp2_with (fail)
  refine K1.out.mono ?_
  rintro e w2 ⟨rfl, hi2, m2, _⟩
  clear K1 hi
  have M2 := m1.trans (m2.mono hB)
  clear m1 m2
  have K2 := Lib.hid (hrOf_any B 0 0 0 0 0 zero_ok w2 hi2)
  go_wp2_with (fail)
  refine K2.out.mono ?_
  rintro e w3 ⟨rfl, hi3, m3, _⟩
  clear K2 hi2
  have M3 := M2.trans (m3.mono hB)
  clear m3 M2
  go_upto_region 4 with (fail)
  have n0 := (Below.refl w3.heap.size w3).drew
  have T0 := Lib.hid (fun W => hTurn_at (by decide) wakes_nums.1 W)
  have T1 := Lib.hid (fun W => hTurn_at (by decide) wakes_nums.2.1 W)
  have U7 := Lib.hid (fun W => hUnturn_at (by decide) wakes_nums.2.2.1 W)
  go_region_held3 (fun _ => True) (trivial)
    (first
      | (go_at_call 15; (with_reducible refine (T0.out w3.drew).mono ?_); rintro e v1 ⟨rfl, j1⟩; have n1 := n0.trans (j1.mono n0.size))
      | (go_at_call 15; (with_reducible refine (T1.out v1).mono ?_); rintro e v2 ⟨rfl, j2⟩; have n2 := n1.trans (j2.mono n1.size))
      | (go_at_call 17; (with_reducible refine (U7.out v2).mono ?_); rintro e v3 ⟨rfl, j3⟩; have n3 := n2.trans (j3.mono n2.size))
      | (go_at_call 19; (with_reducible refine (hGo10 v3).mono ?_); rintro e v4 ⟨rfl, j4⟩; have n4 := n3.trans (j4.mono n3.size))
      | (go_at_call 19; (with_reducible refine (hGo7 v4).mono ?_); rintro e v5 ⟨rfl, j5⟩; have n5 := n4.trans (j5.mono n4.size); obtain ⟨v5m, hrun5, O5, g5⟩ := run_make_full (P := Try.prog) v5 v5.heap.size 22 5 i0 (.int .u8 0) 1 Try.underlying22 hii hz0 hz1 .i64 .i64 12 (by rw [hz2]; omega) (by unfold maxLen; omega) (Nat.le_refl _); rw [show ((12 : Nat) : Int) = 12 from rfl] at hrun5; rw [made_zeroH] at O5; have R5 := Row.of_own O5 in12; have n5m := n5.grown g5 n5.size (fun j e => by cases e))
      | (go_at_call 21; (with_reducible refine (hSum_any 0 0 0 0 zero_ok v5m).mono ?_); rintro e v7 ⟨rfl, j7⟩; have n7 := n5m.trans (j7.mono n5m.size); have R7 := R5.step j7)
      | (go_at_call 21; (with_reducible refine (hSum_any 0 0 0 0 zero_ok v5).mono ?_); rintro e v6 ⟨rfl, j6⟩; have n6 := n5.trans (j6.mono n5.size); obtain ⟨v7, hrun, O7, g7⟩ := run_make_full (P := Try.prog) v6 v6.heap.size 22 5 i0 (.int .u8 0) 1 Try.underlying22 hii hz0 hz1 .i64 .i64 12 (by rw [hz2]; omega) (by unfold maxLen; omega) (Nat.le_refl _); rw [show ((12 : Nat) : Int) = 12 from rfl] at hrun; rw [made_zeroH] at O7; have R7 := Row.of_own O7 in12; have n7 := n6.grown g7 n6.size (fun j e => by cases e))
      | (go_at_call 20; (with_reducible refine (refGo12 v7 _ R7).mono ?_); rintro e v8 ⟨rfl, e8⟩; (cases e8))
      | (go_at_call 23; (with_reducible refine (hOf_any 0 0 0 0 zero_ok v7).mono ?_); rintro e v9 ⟨rfl, j9⟩; have n9 := n7.trans (j9.mono n7.size))
      | (go_at_call 14; (with_reducible refine (r8Of_any 0 0 0 0 zero_ok v9).mono ?_); rintro e v10 ⟨rfl, j10⟩; have n10 := n9.trans (j10.mono n9.size))
      | (go_at_call 24; (with_reducible refine (hSame00 v10).mono ?_); rintro e v11 ⟨rfl, j11⟩; have n11 := n10.trans (j11.mono n10.size))
      | (go_at_call 12; (with_reducible refine (hrMade_any B 1 v11 (hi3.mono n11)).mono ?_); rintro e v12 ⟨rfl, hi12, j12, _⟩))
  all_goals
    have L := (M3.trans (n11.mono M3.size)).trans (j12.mono hB)
    clear hrun5 O5 R5 R7 g5
    go_wp2
    go_ret
    exact ⟨rfl, L⟩
end Go.Proofs.Ytklmlpnccbmpnaa
