/- 'handfastlaw08.HashApart' returns true at all states and bytes, and leaves what lay as it lay. -/
import Derived.Test.YtklmlpnccbmpnaaHsN
namespace Go.Proofs.Ytklmlpnccbmpnaa
open Go.RowKit Go.Shelf
open SumM

theorem apart_eq (zs : List Int) (h : In 255 zs) {s o : Int} (hs : 0 ≤ s ∧ s ≤ 255) (ho : 0 ≤ o ∧ o ≤ 255) : ((goS s zs == goS o zs) == (s == o)) = true := by
  by_cases e : s = o
  · subst e
    simp
  · have h1 : goS s zs ≠ goS o zs := fun h2 => e (goS_inj zs h hs ho h2)
    have h3 : (goS s zs == goS o zs) = false := by simpa using h1
    have h4 : (s == o) = false := by simpa using e
    rw [h3, h4]
    rfl
set_option maxRecDepth 100000 in
set_option maxHeartbeats 16000000 in
theorem hApart_neg (s o : Int) (b off len cap : Nat) (zs : List Int) (at' : Int) (w : World) (hs : 0 ≤ s ∧ s ≤ 255) (ho : 0 ≤ o ∧ o ≤ 255) (hrz : Row .u8 w.heap.size w (some ⟨b, off, none⟩) zs) (hzl : zs.length = len) (hlc : len ≤ cap) (hl : len ≤ 100) (hA : at' < 0) :
    Calls Try.prog 5 #[.int .u8 s, .int .u8 o, .slice (some ⟨b, off, none⟩) len cap, .int .i64 at'] w fun e w' => e = .returned (.bool true) ∧ Below w.heap.size w w' := by
  have p1 : decide ((100 : Int) < (len : Int)) = false := decide_eq_false (by omega)
  have HS := Lib.hid hs
  have K1 := Lib.hid (hGo_any s hs (some ⟨b, off, none⟩) len cap _ zs w hrz hzl (by omega))
  have K2 := Lib.hid (fun W (m : Below w.heap.size w W) => hGo_any o ho (some ⟨b, off, none⟩) len cap _ zs W (hrz.below m) hzl (by omega))
  have KX := Lib.hid (fun W (m : Below w.heap.size w W) => hGo_any s hs (some ⟨b, off, none⟩) len cap _ zs W (hrz.below m) hzl (by omega))
  have p2 := apart_eq zs (row_in hrz) hs ho
  have HGX := Lib.hid (goS_in zs hs)
  have f0 : (0 : Int) ≤ (len : Int) := by omega
  have f3 : (len : Int) ≤ (cap : Int) := by omega
  clear hrz hzl hs ho
  generalize goS s zs = x at *
  generalize goS o zs = y at *
  go_enter Try.func5, Try.ntmps5
  go_wp2_with (fail)
  all_goals first | (exfalso; omega) | skip
  refine (K1.out).mono ?_
  rintro e w1 ⟨rfl, m1⟩
  go_upto_region 5 with (fail)
  have n0 := m1.drew
  go_region_held3 (fun _ => True) (trivial)
    (first
      | (go_at_call 19; (with_reducible refine (K2.out w1.drew n0).mono ?_); rintro e w2 ⟨rfl, j2⟩; have n2 := n0.trans (j2.mono n0.size))
      | (go_at_call 19; (with_reducible refine (hGo_nil HS.out _ _ w2).mono ?_); rintro e w3 ⟨rfl, j3⟩; have n3 := n2.trans (j3.mono n2.size))
      | (go_at_call 19; (with_reducible refine (KX.out w3 n3).mono ?_); rintro e w4 ⟨rfl, j4⟩; have n4 := n3.trans (j4.mono n3.size))
      | (go_at_call 9; (with_reducible refine (hwakes_any w4).mono ?_); rintro e w5 ⟨rfl, j5⟩; have n5 := n4.trans (j5.mono n4.size)))
  all_goals
    go_wp2
    go_ret
    exact ⟨rfl, n5⟩

set_option maxRecDepth 100000 in
set_option maxHeartbeats 16000000 in
theorem hApart_mid (s o : Int) (b off len cap : Nat) (zs : List Int) (at' : Int) (w : World) (hs : 0 ≤ s ∧ s ≤ 255) (ho : 0 ≤ o ∧ o ≤ 255) (hrz : Row .u8 w.heap.size w (some ⟨b, off, none⟩) zs) (hzl : zs.length = len) (hlc : len ≤ cap) (hl : len ≤ 100) (m : Nat) (ha : at' = m) (hm : m < len) :
    Calls Try.prog 5 #[.int .u8 s, .int .u8 o, .slice (some ⟨b, off, none⟩) len cap, .int .i64 at'] w fun e w' => e = .returned (.bool true) ∧ Below w.heap.size w w' := by
  have p1 : decide ((100 : Int) < (len : Int)) = false := decide_eq_false (by omega)
  have HS := Lib.hid hs
  have K1 := Lib.hid (hGo_any s hs (some ⟨b, off, none⟩) len cap _ zs w hrz hzl (by omega))
  have K2 := Lib.hid (fun W (m : Below w.heap.size w W) => hGo_any o ho (some ⟨b, off, none⟩) len cap _ zs W (hrz.below m) hzl (by omega))
  have KX := Lib.hid (fun W (m : Below w.heap.size w W) => hGo_any s hs (some ⟨b, off, none⟩) len cap _ zs W (hrz.below m) hzl (by omega))
  have p2 := apart_eq zs (row_in hrz) hs ho
  have HGX := Lib.hid (goS_in zs hs)
  have f0 : (0 : Int) ≤ (len : Int) := by omega
  have f3 : (len : Int) ≤ (cap : Int) := by omega
  subst ha
  have hc : ¬ cap = m := by omega
  have KT := Lib.hid (fun W (mm : Below w.heap.size w W) => hGo_any s hs (some ⟨b, off, none⟩) m cap _ (zs.take m) W ((hrz.below mm).take m) (by simp; omega) (by omega))
  have KD := Lib.hid (fun W (mm : Below w.heap.size w W) (c : Nat) => show Calls Try.prog 19 #[.int .u8 (goS s (zs.take m)), .slice (some ⟨b, off + m, none⟩) (len - m) c] W (fun e w' => e = .returned (.int .u8 (goS s zs)) ∧ Below W.heap.size W w') from by
    have h := hGo_any (goS s (zs.take m)) (goS_in (zs.take m) hs) (some ⟨b, off + m, none⟩) (len - m) c _ (zs.drop m) W ((hrz.below mm).drop m) (by simp; omega) (by omega)
    rwa [← goS_append, List.take_append_drop] at h)
  have f1 : (0 : Int) ≤ (m : Int) := by omega
  have f2 : (m : Int) ≤ (len : Int) := by omega
  have f4 : (m : Int) ≤ (cap : Int) := by omega
  clear hrz hzl hs ho
  generalize goS s (zs.take m) = g at *
  generalize goS s zs = x at *
  generalize goS o zs = y at *
  go_enter Try.func5, Try.ntmps5
  go_wp2_with (fail)
  all_goals first | (exfalso; omega) | skip
  refine (K1.out).mono ?_
  rintro e w1 ⟨rfl, m1⟩
  go_upto_region 5 with (fail)
  have n0 := m1.drew
  go_region_held3 (fun _ => True) (trivial)
    (first
      | (go_at_call 19; (with_reducible refine (K2.out w1.drew n0).mono ?_); rintro e w2 ⟨rfl, j2⟩; have n2 := n0.trans (j2.mono n0.size))
      | (go_at_call 19; (with_reducible refine (KT.out w2 n2).mono ?_); rintro e w3 ⟨rfl, j3⟩; have n3 := n2.trans (j3.mono n2.size))
      | (go_at_call 19; (with_reducible refine (KD.out w3 n3 _).mono ?_); rintro e w4 ⟨rfl, j4⟩; have n4 := n3.trans (j4.mono n3.size))
      | (go_at_call 9; (with_reducible refine (hwakes_any w4).mono ?_); rintro e w5 ⟨rfl, j5⟩; have n5 := n4.trans (j5.mono n4.size)))
  all_goals
    go_wp2
    go_ret
    exact ⟨rfl, n5⟩

set_option maxRecDepth 100000 in
set_option maxHeartbeats 16000000 in
theorem hApart_top0 (s o : Int) (b off len cap : Nat) (zs : List Int) (at' : Int) (w : World) (hs : 0 ≤ s ∧ s ≤ 255) (ho : 0 ≤ o ∧ o ≤ 255) (hrz : Row .u8 w.heap.size w (some ⟨b, off, none⟩) zs) (hzl : zs.length = len) (hlc : len ≤ cap) (hl : len ≤ 100) (hB : (len : Int) < at') (hc : cap = len) :
    Calls Try.prog 5 #[.int .u8 s, .int .u8 o, .slice (some ⟨b, off, none⟩) len cap, .int .i64 at'] w fun e w' => e = .returned (.bool true) ∧ Below w.heap.size w w' := by
  subst hc
  have p1 : decide ((100 : Int) < (cap : Int)) = false := decide_eq_false (by omega)
  have HS := Lib.hid hs
  have K1 := Lib.hid (hGo_any s hs (some ⟨b, off, none⟩) cap cap _ zs w hrz hzl (by omega))
  have K2 := Lib.hid (fun W (m : Below w.heap.size w W) => hGo_any o ho (some ⟨b, off, none⟩) cap cap _ zs W (hrz.below m) hzl (by omega))
  have KX := Lib.hid (fun W (m : Below w.heap.size w W) => hGo_any s hs (some ⟨b, off, none⟩) cap cap _ zs W (hrz.below m) hzl (by omega))
  have p2 := apart_eq zs (row_in hrz) hs ho
  have HGX := Lib.hid (goS_in zs hs)
  have f0 : (0 : Int) ≤ (cap : Int) := by omega
  clear hrz hzl hs ho
  generalize goS s zs = x at *
  generalize goS o zs = y at *
  go_enter Try.func5, Try.ntmps5
  go_wp2_with (fail)
  all_goals first | (exfalso; omega) | skip
  refine (K1.out).mono ?_
  rintro e w1 ⟨rfl, m1⟩
  go_upto_region 5 with (fail)
  have n0 := m1.drew
  go_region_held3 (fun _ => True) (trivial)
    (first
      | (go_at_call 19; (with_reducible refine (K2.out w1.drew n0).mono ?_); rintro e w2 ⟨rfl, j2⟩; have n2 := n0.trans (j2.mono n0.size))
      | (go_at_call 19; (with_reducible refine (KX.out w2 n2).mono ?_); rintro e w3 ⟨rfl, j3⟩; have n3 := n2.trans (j3.mono n2.size))
      | (go_at_call 19; (with_reducible refine (hGo_nil HGX.out _ _ w3).mono ?_); rintro e w4 ⟨rfl, j4⟩; have n4 := n3.trans (j4.mono n3.size))
      | (go_at_call 9; (with_reducible refine (hwakes_any w4).mono ?_); rintro e w5 ⟨rfl, j5⟩; have n5 := n4.trans (j5.mono n4.size)))
  all_goals
    go_wp2
    go_ret
    exact ⟨rfl, n5⟩

set_option maxRecDepth 100000 in
set_option maxHeartbeats 16000000 in
theorem hApart_top1 (s o : Int) (b off len cap : Nat) (zs : List Int) (at' : Int) (w : World) (hs : 0 ≤ s ∧ s ≤ 255) (ho : 0 ≤ o ∧ o ≤ 255) (hrz : Row .u8 w.heap.size w (some ⟨b, off, none⟩) zs) (hzl : zs.length = len) (hlc : len ≤ cap) (hl : len ≤ 100) (hB : (len : Int) < at') (hc : ¬ cap = len) :
    Calls Try.prog 5 #[.int .u8 s, .int .u8 o, .slice (some ⟨b, off, none⟩) len cap, .int .i64 at'] w fun e w' => e = .returned (.bool true) ∧ Below w.heap.size w w' := by
  have p1 : decide ((100 : Int) < (len : Int)) = false := decide_eq_false (by omega)
  have HS := Lib.hid hs
  have K1 := Lib.hid (hGo_any s hs (some ⟨b, off, none⟩) len cap _ zs w hrz hzl (by omega))
  have K2 := Lib.hid (fun W (m : Below w.heap.size w W) => hGo_any o ho (some ⟨b, off, none⟩) len cap _ zs W (hrz.below m) hzl (by omega))
  have KX := Lib.hid (fun W (m : Below w.heap.size w W) => hGo_any s hs (some ⟨b, off, none⟩) len cap _ zs W (hrz.below m) hzl (by omega))
  have p2 := apart_eq zs (row_in hrz) hs ho
  have HGX := Lib.hid (goS_in zs hs)
  have f0 : (0 : Int) ≤ (len : Int) := by omega
  have f3 : (len : Int) ≤ (cap : Int) := by omega
  clear hrz hzl hs ho
  generalize goS s zs = x at *
  generalize goS o zs = y at *
  go_enter Try.func5, Try.ntmps5
  go_wp2_with (fail)
  all_goals first | (exfalso; omega) | skip
  refine (K1.out).mono ?_
  rintro e w1 ⟨rfl, m1⟩
  go_upto_region 5 with (fail)
  have n0 := m1.drew
  go_region_held3 (fun _ => True) (trivial)
    (first
      | (go_at_call 19; (with_reducible refine (K2.out w1.drew n0).mono ?_); rintro e w2 ⟨rfl, j2⟩; have n2 := n0.trans (j2.mono n0.size))
      | (go_at_call 19; (with_reducible refine (KX.out w2 n2).mono ?_); rintro e w3 ⟨rfl, j3⟩; have n3 := n2.trans (j3.mono n2.size))
      | (go_at_call 19; (with_reducible refine (hGo_nil HGX.out _ _ w3).mono ?_); rintro e w4 ⟨rfl, j4⟩; have n4 := n3.trans (j4.mono n3.size))
      | (go_at_call 9; (with_reducible refine (hwakes_any w4).mono ?_); rintro e w5 ⟨rfl, j5⟩; have n5 := n4.trans (j5.mono n4.size)))
  all_goals
    go_wp2
    go_ret
    exact ⟨rfl, n5⟩

set_option maxRecDepth 100000 in
set_option maxHeartbeats 16000000 in
theorem hApart_top2 (s o : Int) (b off len cap : Nat) (zs : List Int) (at' : Int) (w : World) (hs : 0 ≤ s ∧ s ≤ 255) (ho : 0 ≤ o ∧ o ≤ 255) (hrz : Row .u8 w.heap.size w (some ⟨b, off, none⟩) zs) (hzl : zs.length = len) (hlc : len ≤ cap) (hl : len ≤ 100) (hB : (len : Int) = at') (hc : cap = len) :
    Calls Try.prog 5 #[.int .u8 s, .int .u8 o, .slice (some ⟨b, off, none⟩) len cap, .int .i64 at'] w fun e w' => e = .returned (.bool true) ∧ Below w.heap.size w w' := by
  subst hc
  have p1 : decide ((100 : Int) < (cap : Int)) = false := decide_eq_false (by omega)
  have HS := Lib.hid hs
  have K1 := Lib.hid (hGo_any s hs (some ⟨b, off, none⟩) cap cap _ zs w hrz hzl (by omega))
  have K2 := Lib.hid (fun W (m : Below w.heap.size w W) => hGo_any o ho (some ⟨b, off, none⟩) cap cap _ zs W (hrz.below m) hzl (by omega))
  have KX := Lib.hid (fun W (m : Below w.heap.size w W) => hGo_any s hs (some ⟨b, off, none⟩) cap cap _ zs W (hrz.below m) hzl (by omega))
  have p2 := apart_eq zs (row_in hrz) hs ho
  have HGX := Lib.hid (goS_in zs hs)
  have f0 : (0 : Int) ≤ (cap : Int) := by omega
  subst hB
  clear hrz hzl hs ho
  generalize goS s zs = x at *
  generalize goS o zs = y at *
  go_enter Try.func5, Try.ntmps5
  go_wp2_with (fail)
  all_goals first | (exfalso; omega) | skip
  refine (K1.out).mono ?_
  rintro e w1 ⟨rfl, m1⟩
  go_upto_region 5 with (fail)
  have n0 := m1.drew
  go_region_held3 (fun _ => True) (trivial)
    (first
      | (go_at_call 19; (with_reducible refine (K2.out w1.drew n0).mono ?_); rintro e w2 ⟨rfl, j2⟩; have n2 := n0.trans (j2.mono n0.size))
      | (go_at_call 19; (with_reducible refine (KX.out w2 n2).mono ?_); rintro e w3 ⟨rfl, j3⟩; have n3 := n2.trans (j3.mono n2.size))
      | (go_at_call 19; (with_reducible refine (hGo_nil HGX.out _ _ w3).mono ?_); rintro e w4 ⟨rfl, j4⟩; have n4 := n3.trans (j4.mono n3.size))
      | (go_at_call 9; (with_reducible refine (hwakes_any w4).mono ?_); rintro e w5 ⟨rfl, j5⟩; have n5 := n4.trans (j5.mono n4.size)))
  all_goals
    go_wp2
    go_ret
    exact ⟨rfl, n5⟩

set_option maxRecDepth 100000 in
set_option maxHeartbeats 16000000 in
theorem hApart_top3 (s o : Int) (b off len cap : Nat) (zs : List Int) (at' : Int) (w : World) (hs : 0 ≤ s ∧ s ≤ 255) (ho : 0 ≤ o ∧ o ≤ 255) (hrz : Row .u8 w.heap.size w (some ⟨b, off, none⟩) zs) (hzl : zs.length = len) (hlc : len ≤ cap) (hl : len ≤ 100) (hB : (len : Int) = at') (hc : ¬ cap = len) :
    Calls Try.prog 5 #[.int .u8 s, .int .u8 o, .slice (some ⟨b, off, none⟩) len cap, .int .i64 at'] w fun e w' => e = .returned (.bool true) ∧ Below w.heap.size w w' := by
  have p1 : decide ((100 : Int) < (len : Int)) = false := decide_eq_false (by omega)
  have HS := Lib.hid hs
  have K1 := Lib.hid (hGo_any s hs (some ⟨b, off, none⟩) len cap _ zs w hrz hzl (by omega))
  have K2 := Lib.hid (fun W (m : Below w.heap.size w W) => hGo_any o ho (some ⟨b, off, none⟩) len cap _ zs W (hrz.below m) hzl (by omega))
  have KX := Lib.hid (fun W (m : Below w.heap.size w W) => hGo_any s hs (some ⟨b, off, none⟩) len cap _ zs W (hrz.below m) hzl (by omega))
  have p2 := apart_eq zs (row_in hrz) hs ho
  have HGX := Lib.hid (goS_in zs hs)
  have f0 : (0 : Int) ≤ (len : Int) := by omega
  have f3 : (len : Int) ≤ (cap : Int) := by omega
  subst hB
  clear hrz hzl hs ho
  generalize goS s zs = x at *
  generalize goS o zs = y at *
  go_enter Try.func5, Try.ntmps5
  go_wp2_with (fail)
  all_goals first | (exfalso; omega) | skip
  refine (K1.out).mono ?_
  rintro e w1 ⟨rfl, m1⟩
  go_upto_region 5 with (fail)
  have n0 := m1.drew
  go_region_held3 (fun _ => True) (trivial)
    (first
      | (go_at_call 19; (with_reducible refine (K2.out w1.drew n0).mono ?_); rintro e w2 ⟨rfl, j2⟩; have n2 := n0.trans (j2.mono n0.size))
      | (go_at_call 19; (with_reducible refine (KX.out w2 n2).mono ?_); rintro e w3 ⟨rfl, j3⟩; have n3 := n2.trans (j3.mono n2.size))
      | (go_at_call 19; (with_reducible refine (hGo_nil HGX.out _ _ w3).mono ?_); rintro e w4 ⟨rfl, j4⟩; have n4 := n3.trans (j4.mono n3.size))
      | (go_at_call 9; (with_reducible refine (hwakes_any w4).mono ?_); rintro e w5 ⟨rfl, j5⟩; have n5 := n4.trans (j5.mono n4.size)))
  all_goals
    go_wp2
    go_ret
    exact ⟨rfl, n5⟩
end Go.Proofs.Ytklmlpnccbmpnaa
