/- 'handfastlaw08.HashApart' returns true at all states and bytes, and leaves what lay as it lay. -/
import Derived.Test.YtklmlpnccbmpnaaHsN
namespace Go.Proofs.Ytklmlpnccbmpnaa
open Go.RowKit Go.Shelf
open SumM

set_option maxRecDepth 100000 in
set_option maxHeartbeats 16000000 in
theorem hApart_znl (s o : Int) (at' : Int) (w : World) (hs : 0 ≤ s ∧ s ≤ 255) (ho : 0 ≤ o ∧ o ≤ 255) (hA : at' < 0) :
    Calls Try.prog 5 #[.int .u8 s, .int .u8 o, .slice none 0 0, .int .i64 at'] w fun e w' => e = .returned (.bool true) ∧ Below w.heap.size w w' := by
  have HS := Lib.hid hs
  have HO := Lib.hid ho
  have p2 : ((s == o) == (s == o)) = true := by simp
  clear hs ho
  go_enter Try.func5, Try.ntmps5
  go_wp2_with (fail)
  all_goals first | (exfalso; omega) | skip
  refine (hGo_nil HS.out _ _ w).mono ?_
  rintro e w1 ⟨rfl, m1⟩
  go_upto_region 5 with (fail)
  have n0 := m1.drew
  go_region_held3 (fun _ => True) (trivial)
    (first
      | (go_at_call 19; (with_reducible refine (hGo_nil HO.out _ _ w1.drew).mono ?_); rintro e w2 ⟨rfl, j2⟩; have n2 := n0.trans (j2.mono n0.size))
      | (go_at_call 19; (with_reducible refine (hGo_nil HS.out _ _ w2).mono ?_); rintro e w3 ⟨rfl, j3⟩; have n3 := n2.trans (j3.mono n2.size))
      | (go_at_call 19; (with_reducible refine (hGo_nil HS.out _ _ w3).mono ?_); rintro e w4 ⟨rfl, j4⟩; have n4 := n3.trans (j4.mono n3.size))
      | (go_at_call 9; (with_reducible refine (hwakes_any w4).mono ?_); rintro e w5 ⟨rfl, j5⟩; have n5 := n4.trans (j5.mono n4.size)))
  all_goals
    go_wp2
    go_ret
    exact ⟨rfl, n5⟩

set_option maxRecDepth 100000 in
set_option maxHeartbeats 16000000 in
theorem hApart_zne (s o : Int) (at' : Int) (w : World) (hs : 0 ≤ s ∧ s ≤ 255) (ho : 0 ≤ o ∧ o ≤ 255) (hA : 0 = at') :
    Calls Try.prog 5 #[.int .u8 s, .int .u8 o, .slice none 0 0, .int .i64 at'] w fun e w' => e = .returned (.bool true) ∧ Below w.heap.size w w' := by
  subst hA
  have HS := Lib.hid hs
  have HO := Lib.hid ho
  have p2 : ((s == o) == (s == o)) = true := by simp
  clear hs ho
  go_enter Try.func5, Try.ntmps5
  go_wp2_with (fail)
  all_goals first | (exfalso; omega) | skip
  refine (hGo_nil HS.out _ _ w).mono ?_
  rintro e w1 ⟨rfl, m1⟩
  go_upto_region 5 with (fail)
  have n0 := m1.drew
  go_region_held3 (fun _ => True) (trivial)
    (first
      | (go_at_call 19; (with_reducible refine (hGo_nil HO.out _ _ w1.drew).mono ?_); rintro e w2 ⟨rfl, j2⟩; have n2 := n0.trans (j2.mono n0.size))
      | (go_at_call 19; (with_reducible refine (hGo_nil HS.out _ _ w2).mono ?_); rintro e w3 ⟨rfl, j3⟩; have n3 := n2.trans (j3.mono n2.size))
      | (go_at_call 19; (with_reducible refine (hGo_nil HS.out _ _ w3).mono ?_); rintro e w4 ⟨rfl, j4⟩; have n4 := n3.trans (j4.mono n3.size))
      | (go_at_call 9; (with_reducible refine (hwakes_any w4).mono ?_); rintro e w5 ⟨rfl, j5⟩; have n5 := n4.trans (j5.mono n4.size)))
  all_goals
    go_wp2
    go_ret
    exact ⟨rfl, n5⟩

set_option maxRecDepth 100000 in
set_option maxHeartbeats 16000000 in
theorem hApart_zng (s o : Int) (at' : Int) (w : World) (hs : 0 ≤ s ∧ s ≤ 255) (ho : 0 ≤ o ∧ o ≤ 255) (hA : 0 < at') :
    Calls Try.prog 5 #[.int .u8 s, .int .u8 o, .slice none 0 0, .int .i64 at'] w fun e w' => e = .returned (.bool true) ∧ Below w.heap.size w w' := by
  have HS := Lib.hid hs
  have HO := Lib.hid ho
  have p2 : ((s == o) == (s == o)) = true := by simp
  clear hs ho
  go_enter Try.func5, Try.ntmps5
  go_wp2_with (fail)
  all_goals first | (exfalso; omega) | skip
  refine (hGo_nil HS.out _ _ w).mono ?_
  rintro e w1 ⟨rfl, m1⟩
  go_upto_region 5 with (fail)
  have n0 := m1.drew
  go_region_held3 (fun _ => True) (trivial)
    (first
      | (go_at_call 19; (with_reducible refine (hGo_nil HO.out _ _ w1.drew).mono ?_); rintro e w2 ⟨rfl, j2⟩; have n2 := n0.trans (j2.mono n0.size))
      | (go_at_call 19; (with_reducible refine (hGo_nil HS.out _ _ w2).mono ?_); rintro e w3 ⟨rfl, j3⟩; have n3 := n2.trans (j3.mono n2.size))
      | (go_at_call 19; (with_reducible refine (hGo_nil HS.out _ _ w3).mono ?_); rintro e w4 ⟨rfl, j4⟩; have n4 := n3.trans (j4.mono n3.size))
      | (go_at_call 9; (with_reducible refine (hwakes_any w4).mono ?_); rintro e w5 ⟨rfl, j5⟩; have n5 := n4.trans (j5.mono n4.size)))
  all_goals
    go_wp2
    go_ret
    exact ⟨rfl, n5⟩

set_option maxRecDepth 100000 in
set_option maxHeartbeats 16000000 in
theorem hApart_zcl (s o : Int) (ad : Addr) (cap : Nat) (at' : Int) (w : World) (hs : 0 ≤ s ∧ s ≤ 255) (ho : 0 ≤ o ∧ o ≤ 255) (hA : at' < 0) (hc : ¬ cap = 0) :
    Calls Try.prog 5 #[.int .u8 s, .int .u8 o, .slice (some ad) 0 cap, .int .i64 at'] w fun e w' => e = .returned (.bool true) ∧ Below w.heap.size w w' := by
  have f3 : (0 : Int) ≤ (cap : Int) := by omega
  have HS := Lib.hid hs
  have HO := Lib.hid ho
  have p2 : ((s == o) == (s == o)) = true := by simp
  clear hs ho
  go_enter Try.func5, Try.ntmps5
  go_wp2_with (fail)
  all_goals first | (exfalso; omega) | skip
  refine (hGo_nil HS.out _ _ w).mono ?_
  rintro e w1 ⟨rfl, m1⟩
  go_upto_region 5 with (fail)
  have n0 := m1.drew
  go_region_held3 (fun _ => True) (trivial)
    (first
      | (go_at_call 19; (with_reducible refine (hGo_nil HO.out _ _ w1.drew).mono ?_); rintro e w2 ⟨rfl, j2⟩; have n2 := n0.trans (j2.mono n0.size))
      | (go_at_call 19; (with_reducible refine (hGo_nil HS.out _ _ w2).mono ?_); rintro e w3 ⟨rfl, j3⟩; have n3 := n2.trans (j3.mono n2.size))
      | (go_at_call 19; (with_reducible refine (hGo_nil HS.out _ _ w3).mono ?_); rintro e w4 ⟨rfl, j4⟩; have n4 := n3.trans (j4.mono n3.size))
      | (go_at_call 9; (with_reducible refine (hwakes_any w4).mono ?_); rintro e w5 ⟨rfl, j5⟩; have n5 := n4.trans (j5.mono n4.size)))
  all_goals
    go_wp2
    go_ret
    exact ⟨rfl, n5⟩

set_option maxRecDepth 100000 in
set_option maxHeartbeats 16000000 in
theorem hApart_zce (s o : Int) (ad : Addr) (cap : Nat) (at' : Int) (w : World) (hs : 0 ≤ s ∧ s ≤ 255) (ho : 0 ≤ o ∧ o ≤ 255) (hA : 0 = at') (hc : ¬ cap = 0) :
    Calls Try.prog 5 #[.int .u8 s, .int .u8 o, .slice (some ad) 0 cap, .int .i64 at'] w fun e w' => e = .returned (.bool true) ∧ Below w.heap.size w w' := by
  subst hA
  have f3 : (0 : Int) ≤ (cap : Int) := by omega
  have HS := Lib.hid hs
  have HO := Lib.hid ho
  have p2 : ((s == o) == (s == o)) = true := by simp
  clear hs ho
  go_enter Try.func5, Try.ntmps5
  go_wp2_with (fail)
  all_goals first | (exfalso; omega) | skip
  refine (hGo_nil HS.out _ _ w).mono ?_
  rintro e w1 ⟨rfl, m1⟩
  go_upto_region 5 with (fail)
  have n0 := m1.drew
  go_region_held3 (fun _ => True) (trivial)
    (first
      | (go_at_call 19; (with_reducible refine (hGo_nil HO.out _ _ w1.drew).mono ?_); rintro e w2 ⟨rfl, j2⟩; have n2 := n0.trans (j2.mono n0.size))
      | (go_at_call 19; (with_reducible refine (hGo_nil HS.out _ _ w2).mono ?_); rintro e w3 ⟨rfl, j3⟩; have n3 := n2.trans (j3.mono n2.size))
      | (go_at_call 19; (with_reducible refine (hGo_nil HS.out _ _ w3).mono ?_); rintro e w4 ⟨rfl, j4⟩; have n4 := n3.trans (j4.mono n3.size))
      | (go_at_call 9; (with_reducible refine (hwakes_any w4).mono ?_); rintro e w5 ⟨rfl, j5⟩; have n5 := n4.trans (j5.mono n4.size)))
  all_goals
    go_wp2
    go_ret
    exact ⟨rfl, n5⟩

set_option maxRecDepth 100000 in
set_option maxHeartbeats 16000000 in
theorem hApart_zcg (s o : Int) (ad : Addr) (cap : Nat) (at' : Int) (w : World) (hs : 0 ≤ s ∧ s ≤ 255) (ho : 0 ≤ o ∧ o ≤ 255) (hA : 0 < at') (hc : ¬ cap = 0) :
    Calls Try.prog 5 #[.int .u8 s, .int .u8 o, .slice (some ad) 0 cap, .int .i64 at'] w fun e w' => e = .returned (.bool true) ∧ Below w.heap.size w w' := by
  have f3 : (0 : Int) ≤ (cap : Int) := by omega
  have HS := Lib.hid hs
  have HO := Lib.hid ho
  have p2 : ((s == o) == (s == o)) = true := by simp
  clear hs ho
  go_enter Try.func5, Try.ntmps5
  go_wp2_with (fail)
  all_goals first | (exfalso; omega) | skip
  refine (hGo_nil HS.out _ _ w).mono ?_
  rintro e w1 ⟨rfl, m1⟩
  go_upto_region 5 with (fail)
  have n0 := m1.drew
  go_region_held3 (fun _ => True) (trivial)
    (first
      | (go_at_call 19; (with_reducible refine (hGo_nil HO.out _ _ w1.drew).mono ?_); rintro e w2 ⟨rfl, j2⟩; have n2 := n0.trans (j2.mono n0.size))
      | (go_at_call 19; (with_reducible refine (hGo_nil HS.out _ _ w2).mono ?_); rintro e w3 ⟨rfl, j3⟩; have n3 := n2.trans (j3.mono n2.size))
      | (go_at_call 19; (with_reducible refine (hGo_nil HS.out _ _ w3).mono ?_); rintro e w4 ⟨rfl, j4⟩; have n4 := n3.trans (j4.mono n3.size))
      | (go_at_call 9; (with_reducible refine (hwakes_any w4).mono ?_); rintro e w5 ⟨rfl, j5⟩; have n5 := n4.trans (j5.mono n4.size)))
  all_goals
    go_wp2
    go_ret
    exact ⟨rfl, n5⟩

set_option maxRecDepth 100000 in
set_option maxHeartbeats 16000000 in
theorem hApart_zdl (s o : Int) (ad : Addr) (at' : Int) (w : World) (hs : 0 ≤ s ∧ s ≤ 255) (ho : 0 ≤ o ∧ o ≤ 255) (hA : at' < 0) :
    Calls Try.prog 5 #[.int .u8 s, .int .u8 o, .slice (some ad) 0 0, .int .i64 at'] w fun e w' => e = .returned (.bool true) ∧ Below w.heap.size w w' := by
  have HS := Lib.hid hs
  have HO := Lib.hid ho
  have p2 : ((s == o) == (s == o)) = true := by simp
  clear hs ho
  go_enter Try.func5, Try.ntmps5
  go_wp2_with (fail)
  all_goals first | (exfalso; omega) | skip
  refine (hGo_nil HS.out _ _ w).mono ?_
  rintro e w1 ⟨rfl, m1⟩
  go_upto_region 5 with (fail)
  have n0 := m1.drew
  go_region_held3 (fun _ => True) (trivial)
    (first
      | (go_at_call 19; (with_reducible refine (hGo_nil HO.out _ _ w1.drew).mono ?_); rintro e w2 ⟨rfl, j2⟩; have n2 := n0.trans (j2.mono n0.size))
      | (go_at_call 19; (with_reducible refine (hGo_nil HS.out _ _ w2).mono ?_); rintro e w3 ⟨rfl, j3⟩; have n3 := n2.trans (j3.mono n2.size))
      | (go_at_call 19; (with_reducible refine (hGo_nil HS.out _ _ w3).mono ?_); rintro e w4 ⟨rfl, j4⟩; have n4 := n3.trans (j4.mono n3.size))
      | (go_at_call 9; (with_reducible refine (hwakes_any w4).mono ?_); rintro e w5 ⟨rfl, j5⟩; have n5 := n4.trans (j5.mono n4.size)))
  all_goals
    go_wp2
    go_ret
    exact ⟨rfl, n5⟩

set_option maxRecDepth 100000 in
set_option maxHeartbeats 16000000 in
theorem hApart_zde (s o : Int) (ad : Addr) (at' : Int) (w : World) (hs : 0 ≤ s ∧ s ≤ 255) (ho : 0 ≤ o ∧ o ≤ 255) (hA : 0 = at') :
    Calls Try.prog 5 #[.int .u8 s, .int .u8 o, .slice (some ad) 0 0, .int .i64 at'] w fun e w' => e = .returned (.bool true) ∧ Below w.heap.size w w' := by
  subst hA
  have HS := Lib.hid hs
  have HO := Lib.hid ho
  have p2 : ((s == o) == (s == o)) = true := by simp
  clear hs ho
  go_enter Try.func5, Try.ntmps5
  go_wp2_with (fail)
  all_goals first | (exfalso; omega) | skip
  refine (hGo_nil HS.out _ _ w).mono ?_
  rintro e w1 ⟨rfl, m1⟩
  go_upto_region 5 with (fail)
  have n0 := m1.drew
  go_region_held3 (fun _ => True) (trivial)
    (first
      | (go_at_call 19; (with_reducible refine (hGo_nil HO.out _ _ w1.drew).mono ?_); rintro e w2 ⟨rfl, j2⟩; have n2 := n0.trans (j2.mono n0.size))
      | (go_at_call 19; (with_reducible refine (hGo_nil HS.out _ _ w2).mono ?_); rintro e w3 ⟨rfl, j3⟩; have n3 := n2.trans (j3.mono n2.size))
      | (go_at_call 19; (with_reducible refine (hGo_nil HS.out _ _ w3).mono ?_); rintro e w4 ⟨rfl, j4⟩; have n4 := n3.trans (j4.mono n3.size))
      | (go_at_call 9; (with_reducible refine (hwakes_any w4).mono ?_); rintro e w5 ⟨rfl, j5⟩; have n5 := n4.trans (j5.mono n4.size)))
  all_goals
    go_wp2
    go_ret
    exact ⟨rfl, n5⟩

set_option maxRecDepth 100000 in
set_option maxHeartbeats 16000000 in
theorem hApart_zdg (s o : Int) (ad : Addr) (at' : Int) (w : World) (hs : 0 ≤ s ∧ s ≤ 255) (ho : 0 ≤ o ∧ o ≤ 255) (hA : 0 < at') :
    Calls Try.prog 5 #[.int .u8 s, .int .u8 o, .slice (some ad) 0 0, .int .i64 at'] w fun e w' => e = .returned (.bool true) ∧ Below w.heap.size w w' := by
  have HS := Lib.hid hs
  have HO := Lib.hid ho
  have p2 : ((s == o) == (s == o)) = true := by simp
  clear hs ho
  go_enter Try.func5, Try.ntmps5
  go_wp2_with (fail)
  all_goals first | (exfalso; omega) | skip
  refine (hGo_nil HS.out _ _ w).mono ?_
  rintro e w1 ⟨rfl, m1⟩
  go_upto_region 5 with (fail)
  have n0 := m1.drew
  go_region_held3 (fun _ => True) (trivial)
    (first
      | (go_at_call 19; (with_reducible refine (hGo_nil HO.out _ _ w1.drew).mono ?_); rintro e w2 ⟨rfl, j2⟩; have n2 := n0.trans (j2.mono n0.size))
      | (go_at_call 19; (with_reducible refine (hGo_nil HS.out _ _ w2).mono ?_); rintro e w3 ⟨rfl, j3⟩; have n3 := n2.trans (j3.mono n2.size))
      | (go_at_call 19; (with_reducible refine (hGo_nil HS.out _ _ w3).mono ?_); rintro e w4 ⟨rfl, j4⟩; have n4 := n3.trans (j4.mono n3.size))
      | (go_at_call 9; (with_reducible refine (hwakes_any w4).mono ?_); rintro e w5 ⟨rfl, j5⟩; have n5 := n4.trans (j5.mono n4.size)))
  all_goals
    go_wp2
    go_ret
    exact ⟨rfl, n5⟩
end Go.Proofs.Ytklmlpnccbmpnaa
