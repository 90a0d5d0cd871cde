/- SheetBack, walked. -/
import Derived.Test.YtiaikacfdbcmmaaShW
import Derived.Test.YtiaikacfdbcmmaaShX
import Derived.Test.YtiaikacfdbcmmaaShC
import Derived.Deep.RegionHeldLaw
namespace Go.Proofs.Ytiaikacfdbcmmaa
open Go.RowKit Go.Shelf
open SumM
attribute [local go_sem] Oper.semAt_some

theorem in_app {m : Int} {a b : List Int} (ha : In m a) (hb : In m b) : In m (a ++ b) := fun x hx => (List.mem_append.1 hx).elim (ha x) (hb x)
theorem rowB_in (r : SR) : In 255 (rowB r) := in_app (in_app (in_app (in_app (be_in _ _) (be_in _ _)) (be_in _ _)) (be_in _ _)) (be_in _ _)
theorem shB_in (ba tv : Int) (rs : List SR) : In 255 (shB ba tv rs) := in_app (in_app (in_app (be_in _ _) (be_in _ _)) (be_in _ _)) (fun x hx => by
  obtain ⟨r, _, h⟩ := List.mem_flatMap.1 hx
  exact rowB_in r x h)
set_option maxRecDepth 100000 in
set_option maxHeartbeats 16000000 in
theorem shBack_walk (ba tv : Int) (sa : Option Addr) (sn sc : Nat) (rs : List SR) (ba' tv' : Int) (sa' : Option Addr) (sn' sc' : Nat) (rs' : List SR) (x : Int) (w : World) (h0 : IsSh w sa sn sc rs) (h1 : IsSh w sa' sn' sc' rs') (hx : (Lit.int .u8 x).wf = true) :
    Calls Try.prog 4 #[.agg #[.int .i64 ba, .int .i64 tv, .slice sa sn sc], .agg #[.int .i64 ba', .int .i64 tv', .slice sa' sn' sc'], .int .u8 x] w fun e w' => e = .returned (.bool true) ∧ Below w.heap.size w w' := by
  obtain ⟨i0, hi, hz0, hz1, hz2⟩ := info_parts Try.infoU8
  have WKS := Lib.hid (fun W => wakes_any W)
  have RS := Lib.hid (fun W (m : Below w.heap.size w W) => (h0.row.below m).more m.size)
  have RS2 := Lib.hid (fun W (m : Below w.heap.size w W) => (h1.row.below m).more m.size)
  have HL := Lib.hid (And.intro h0.hl (And.intro h1.hl (And.intro h0.hc h1.hc)))
  have HX := Lib.hid hx
  clear h0 h1 hx
  have HB := Lib.hid (show Below w.heap.size w ((w.alloc (.cells #[.int .i64 ba, .int .i64 tv, .slice sa sn sc] 29)).alloc (.cells #[.int .i64 ba', .int .i64 tv', .slice sa' sn' sc'] 29)) ∧ ((w.alloc (.cells #[.int .i64 ba, .int .i64 tv, .slice sa sn sc] 29)).alloc (.cells #[.int .i64 ba', .int .i64 tv', .slice sa' sn' sc'] 29)).heap[w.heap.size]? = some (.cells #[.int .i64 ba, .int .i64 tv, .slice sa sn sc] 29 (0, 0)) ∧ ((w.alloc (.cells #[.int .i64 ba, .int .i64 tv, .slice sa sn sc] 29)).alloc (.cells #[.int .i64 ba', .int .i64 tv', .slice sa' sn' sc'] 29)).heap[w.heap.size + 1]? = some (.cells #[.int .i64 ba', .int .i64 tv', .slice sa' sn' sc'] 29 (0, 0)) from
    ⟨((Below.refl w.heap.size w).alloc (Nat.le_refl _) _).alloc (by simp) _, blkN (heap_alloc_new w _) _, newN _ _ _ (by simp)⟩)
  obtain ⟨q0, q1, q2⟩ := sh_cells _ _ _ _ _ HB.out.2.1
  obtain ⟨r0, r1, r2⟩ := sh_cells _ _ _ _ _ HB.out.2.2
  go_enter Try.func4, Try.ntmps4
  go_upto_region 1 with fail
  generalize ((w.alloc (.cells #[.int .i64 ba, .int .i64 tv, .slice sa sn sc] 29)).alloc (.cells #[.int .i64 ba', .int .i64 tv', .slice sa' sn' sc'] 29)) = W0 at *
  have KG := Lib.hid (great_any ba tv sa sn sc W0)
  by_cases hb1 : 40 < sn
  · rw [show decide ((40 : Int) < (sn : Int)) = true from decide_eq_true (by omega)] at KG
    go_wp2_with (first
      | (go_at_call 8; (with_reducible refine KG.out.mono ?_); rintro e w1 ⟨rfl, m1⟩)
      | (go_at_call 9; (with_reducible refine (WKS.out _).mono ?_); rintro e w9 ⟨rfl, m9⟩))
    go_ret
    exact ⟨rfl, HB.out.1.trans ((m1.trans (m9.mono m1.size)).mono HB.out.1.size)⟩
  rw [show decide ((40 : Int) < (sn : Int)) = false from decide_eq_false (by omega)] at KG
  go_wp2_with fail
  refine KG.out.mono ?_
  rintro e w1 ⟨rfl, m1⟩
  have HB1 := Lib.hid (show Below w.heap.size w w1 ∧ w1.heap[w.heap.size]? = some (.cells #[.int .i64 ba, .int .i64 tv, .slice sa sn sc] 29 (0, 0)) ∧ w1.heap[w.heap.size + 1]? = some (.cells #[.int .i64 ba', .int .i64 tv', .slice sa' sn' sc'] 29 (0, 0)) from ⟨HB.out.1.trans (m1.mono HB.out.1.size), bb HB.out.2.1 m1, bb HB.out.2.2 m1⟩)
  clear q0 q1 q2 r0 r1 r2 m1 HB KG
  obtain ⟨r0, r1, r2⟩ := sh_cells _ _ _ _ _ HB1.out.2.2
  have KG := Lib.hid (great_any ba' tv' sa' sn' sc' w1)
  by_cases hb2 : 40 < sn'
  · rw [show decide ((40 : Int) < (sn' : Int)) = true from decide_eq_true (by omega)] at KG
    go_wp2_with (first
      | (go_at_call 8; (with_reducible refine KG.out.mono ?_); rintro e w2 ⟨rfl, m2⟩)
      | (go_at_call 9; (with_reducible refine (WKS.out _).mono ?_); rintro e w9 ⟨rfl, m9⟩))
    go_ret
    exact ⟨rfl, HB1.out.1.trans ((m2.trans (m9.mono m2.size)).mono HB1.out.1.size)⟩
  rw [show decide ((40 : Int) < (sn' : Int)) = false from decide_eq_false (by omega)] at KG
  have HS := Lib.hid (show sn ≤ 40 ∧ sn' ≤ 40 by omega)
  clear hb1 hb2
  go_wp2_with fail
  refine KG.out.mono ?_
  rintro e w2 ⟨rfl, m2⟩
  have HB2 := Lib.hid (show Below w.heap.size w w2 ∧ w2.heap[w.heap.size]? = some (.cells #[.int .i64 ba, .int .i64 tv, .slice sa sn sc] 29 (0, 0)) ∧ w2.heap[w.heap.size + 1]? = some (.cells #[.int .i64 ba', .int .i64 tv', .slice sa' sn' sc'] 29 (0, 0)) from ⟨HB1.out.1.trans (m2.mono HB1.out.1.size), bb HB1.out.2.1 m2, bb HB1.out.2.2 m2⟩)
  clear r0 r1 r2 m2 HB1 KG
  obtain ⟨q0, q1, q2⟩ := sh_cells _ _ _ _ _ HB2.out.2.1
  have KP := Lib.hid (sPut_any ba tv sa sn sc rs HL.out.1 (by have := HS.out; omega) w2 (RS.out w2 HB2.out.1))
  go_wp2_with fail
  refine KP.out.mono ?_
  rintro e w3 ⟨v, rfl, O3, m3⟩
  have HB3 := Lib.hid (show Below w.heap.size w w3 ∧ w3.heap[w.heap.size]? = some (.cells #[.int .i64 ba, .int .i64 tv, .slice sa sn sc] 29 (0, 0)) ∧ w3.heap[w.heap.size + 1]? = some (.cells #[.int .i64 ba', .int .i64 tv', .slice sa' sn' sc'] 29 (0, 0)) from ⟨HB2.out.1.trans (m3.mono HB2.out.1.size), bb HB2.out.2.1 m3, bb HB2.out.2.2 m3⟩)
  clear q0 q1 q2 m3 KP
  have KR := Lib.hid (r11Right_any ba tv sa sn sc rs HL.out.1 (by have := HS.out; omega) w3 (RS.out w3 HB3.out.1))
  obtain ⟨q0, q1, q2⟩ := sh_cells _ _ _ _ _ HB3.out.2.1
  obtain ⟨g, hg⟩ : ∃ g, shOk ba tv rs = g := ⟨_, rfl⟩
  cases g
  · have hsp : spB ba tv rs = [] ∧ spE ba tv rs = 2 := by
      unfold spB spE
      rw [hg]
      exact ⟨rfl, rfl⟩
    rw [hsp.1] at O3
    rw [hsp.2]
    obtain ⟨P, cp, rfl, hc0, hc1, hc2⟩ := ownS_slice O3
    rw [hg] at KR
    clear O3 hc0 hc1 hc2 hsp hg
    simp only [List.length_nil]
    go_wp2_with (first
      | (go_at_call 21; (with_reducible refine KR.out.mono ?_); rintro e w4 ⟨rfl, m4⟩)
      | (go_at_call 9; (with_reducible refine (WKS.out _).mono ?_); rintro e w9 ⟨rfl, m9⟩))
    go_ret
    exact ⟨rfl, HB3.out.1.trans ((m4.trans (m9.mono m4.size)).mono HB3.out.1.size)⟩
  have hsp : spB ba tv rs = shB ba tv rs ∧ spE ba tv rs = 0 := by
    unfold spB spE
    rw [hg]
    exact ⟨rfl, rfl⟩
  have hlen := shB_len ba tv rs
  rw [hsp.1, hlen, HL.out.1] at O3
  rw [hsp.2]
  have hn16 := (shOk_iff hg).2.2.1
  rw [HL.out.1] at hn16 hlen
  have hin : In 255 (shB ba tv rs) := shB_in ba tv rs
  have htk := put_tk hg
  have hls := put_less hg
  have hmr := put_more hg x
  rw [HL.out.1] at hls
  have hpi := fun h' => put_inj (ba' := ba') (tv' := tv') (rs' := rs') hg h'
  rw [hg] at KR
  generalize shB ba tv rs = pb at *
  generalize hnb : 13 + 13 * sn = nb at *
  obtain ⟨P, cp, rfl, hc0, hc1, hc2⟩ := ownS_slice O3
  replace O3 : w3.ownsRow w.heap.size 5 1 (.slice P nb cp) nb (pb.map (Value.int .u8)) := ownS_base O3 HB2.out.1.size
  obtain ⟨gp, hgp, _, _⟩ := own_addr O3 (by omega)
  subst hgp
  have HPB := Lib.hid (And.intro hlen (And.intro hin (And.intro htk (And.intro hls (And.intro hmr (And.intro hpi (And.intro hg (And.intro hc1 hn16))))))))
  have HO3 := Lib.hid O3
  have HNB := Lib.hid hnb
  clear hlen hin htk hls hmr hpi hg hc0 hc1 hc2 hsp O3 HB2 hn16 hnb
  go_wp2_with fail
  refine KR.out.mono ?_
  rintro e w4 ⟨rfl, m4⟩
  have HB4 := Lib.hid (show Below w.heap.size w w4 ∧ w4.heap[w.heap.size]? = some (.cells #[.int .i64 ba, .int .i64 tv, .slice sa sn sc] 29 (0, 0)) ∧ w4.heap[w.heap.size + 1]? = some (.cells #[.int .i64 ba', .int .i64 tv', .slice sa' sn' sc'] 29 (0, 0)) ∧ w4.ownsRow w.heap.size 5 1 (.slice (some ⟨gp, 0, none⟩) nb cp) nb (pb.map (Value.int .u8)) from ⟨HB3.out.1.trans (m4.mono HB3.out.1.size), bb HB3.out.2.1 m4, bb HB3.out.2.2 m4, ownS_below HO3.out m4⟩)
  clear q0 q1 q2 m4 KR HB3 HO3
  have KT := Lib.hid (HPB.out.2.2.1 ▸ sTake_any (some ⟨gp, 0, none⟩) nb cp pb HPB.out.1 HPB.out.2.2.2.2.2.2.2.1 (by have := HPB.out.2.2.2.2.2.2.2.2; have := HNB.out; omega) w4 (Row.of_own HB4.out.2.2.2 (in_wf8 HPB.out.2.1)))
  go_wp2_with fail
  refine KT.out.mono ?_
  rintro e w5 hr
  obtain ⟨S1, c1, rfl, hc0, hc1, O5, m5⟩ := hr.slice HL.out.1
  have M5 := m5.trans (((Below.refl w5.heap.size w5).alloc (Nat.le_refl _) (.cells #[.int .i64 ba, .int .i64 tv, .slice S1 sn c1] 29)).mono m5.size)
  have HB5 := Lib.hid (show Below w.heap.size w (w5.alloc (.cells #[.int .i64 ba, .int .i64 tv, .slice S1 sn c1] 29)) ∧ (w5.alloc (.cells #[.int .i64 ba, .int .i64 tv, .slice S1 sn c1] 29)).heap[w.heap.size]? = some (.cells #[.int .i64 ba, .int .i64 tv, .slice sa sn sc] 29 (0, 0)) ∧ (w5.alloc (.cells #[.int .i64 ba, .int .i64 tv, .slice S1 sn c1] 29)).heap[w.heap.size + 1]? = some (.cells #[.int .i64 ba', .int .i64 tv', .slice sa' sn' sc'] 29 (0, 0)) ∧ (w5.alloc (.cells #[.int .i64 ba, .int .i64 tv, .slice S1 sn c1] 29)).ownsRow w.heap.size 5 1 (.slice (some ⟨gp, 0, none⟩) nb cp) nb (pb.map (Value.int .u8)) ∧ (w5.alloc (.cells #[.int .i64 ba, .int .i64 tv, .slice S1 sn c1] 29)).heap[w5.heap.size]? = some (.cells #[.int .i64 ba, .int .i64 tv, .slice S1 sn c1] 29 (0, 0)) ∧ (w5.alloc (.cells #[.int .i64 ba, .int .i64 tv, .slice S1 sn c1] 29)).ownsRow w.heap.size 48 5 (.slice S1 sn c1) sn (flatS rowC rs) from
    ⟨HB4.out.1.trans (M5.mono HB4.out.1.size), bb HB4.out.2.1 M5, bb HB4.out.2.2.1 M5, ownS_below HB4.out.2.2.2 M5, heap_alloc_new w5 _, ownS_below (ownS_base O5 HB4.out.1.size) ((Below.refl w5.heap.size w5).alloc (Nat.le_refl _) _)⟩)
  clear m5 O5 hc0 hc1 KT M5
  have zz := heap_alloc_new w5 (.cells #[.int .i64 0, .int .i64 0, .slice none 0 0] 29)
  obtain ⟨z0, z1, z2⟩ := sh_cells _ _ _ _ _ zz
  have f0 := sh_frozen zz 0
  have f1 := sh_frozen zz 1
  have f2 := sh_frozen zz 2
  clear zz
  go_upto_region 7 with fail
  clear z0 z1 z2 f0 f1 f2
  generalize w5.alloc (.cells #[.int .i64 ba, .int .i64 tv, .slice S1 sn c1] 29) = W5 at *
  generalize w5.heap.size = b9 at *
  obtain ⟨q0, q1, q2⟩ := sh_cells _ _ _ _ _ HB5.out.2.1
  obtain ⟨r0, r1, r2⟩ := sh_cells _ _ _ _ _ HB5.out.2.2.2.2.1
  have KS := Lib.hid (r11Same_any ba tv S1 sn c1 ba tv sa sn sc rs rs HL.out.1 (by have := HS.out; omega) HL.out.1 (by have := HS.out; omega) W5 (SRow.of_own rowC_len (by decide) HB5.out.2.2.2.2.2) (RS.out W5 HB5.out.1))
  rw [show smS ba tv rs ba tv rs = true from decide_eq_true ⟨rfl, rfl, rfl⟩] at KS
  have hw2 : IntKind.i64.wrap (13 * (sn : Int)) = 13 * (sn : Int) := IntWalk.i64_in _ (by have := HS.out; omega)
  have hw3 : IntKind.i64.wrap (13 + 13 * (sn : Int)) = (nb : Int) := by rw [IntWalk.i64_in _ (by have := HS.out; omega), ← HNB.out]; omega
  have hne : ((nb : Int) != (nb : Int)) = false := by simp
  go_wp2_with fail
  refine KS.out.mono ?_
  rintro e w6 ⟨rfl, m6⟩
  have HB6 := Lib.hid (show Below w.heap.size w w6 ∧ w6.heap[w.heap.size]? = some (.cells #[.int .i64 ba, .int .i64 tv, .slice sa sn sc] 29 (0, 0)) ∧ w6.heap[w.heap.size + 1]? = some (.cells #[.int .i64 ba', .int .i64 tv', .slice sa' sn' sc'] 29 (0, 0)) ∧ w6.ownsRow w.heap.size 5 1 (.slice (some ⟨gp, 0, none⟩) nb cp) nb (pb.map (Value.int .u8)) from ⟨HB5.out.1.trans (m6.mono HB5.out.1.size), bb HB5.out.2.1 m6, bb HB5.out.2.2.1 m6, ownS_below HB5.out.2.2.2.1 m6⟩)
  clear q0 q1 q2 r0 r1 r2 KS m6 HB5
  obtain ⟨q0, q1, q2⟩ := sh_cells _ _ _ _ _ HB6.out.2.1
  go_upto_region 9 with fail
  clear q0 q1 q2 hw2 hw3 hne
  have hw4 : IntKind.i64.wrap ((nb : Int) - 1) = ((12 + 13 * sn : Nat) : Int) := by rw [IntWalk.i64_in _ (by have := HS.out; have := HNB.out; omega), ← HNB.out]; omega
  have g1 : ((12 + 13 * sn : Nat) : Int) ≤ (cp : Int) := by have := HPB.out.2.2.2.2.2.2.2.1; have := HNB.out; omega
  have g0 : (0 : Int) ≤ ((12 + 13 * sn : Nat) : Int) := by omega
  have KT1 := Lib.hid (HPB.out.2.2.2.1 ▸ sTake_any (some ⟨gp, 0, none⟩) (12 + 13 * sn) cp (pb.take (12 + 13 * sn)) (by rw [List.length_take, HPB.out.1]; have := HNB.out; omega) (by omega) (by have := HS.out; omega) w6 ((Row.of_own HB6.out.2.2.2 (in_wf8 HPB.out.2.1)).take _))
  generalize hls : 12 + 13 * sn = ls at *
  go_wp2_with fail
  refine KT1.out.mono ?_
  rintro e w7 hr
  obtain ⟨S2, c2, rfl, hc0, hc1, O7, m7⟩ := hr.slice (n := 0) rfl
  have M7 := m7.trans (((Below.refl w7.heap.size w7).alloc (Nat.le_refl _) (.cells #[.int .i64 0, .int .i64 0, .slice S2 0 c2] 29)).mono m7.size)
  have HB7 := Lib.hid (show Below w.heap.size w (w7.alloc (.cells #[.int .i64 0, .int .i64 0, .slice S2 0 c2] 29)) ∧ (w7.alloc (.cells #[.int .i64 0, .int .i64 0, .slice S2 0 c2] 29)).heap[w.heap.size]? = some (.cells #[.int .i64 ba, .int .i64 tv, .slice sa sn sc] 29 (0, 0)) ∧ (w7.alloc (.cells #[.int .i64 0, .int .i64 0, .slice S2 0 c2] 29)).heap[w.heap.size + 1]? = some (.cells #[.int .i64 ba', .int .i64 tv', .slice sa' sn' sc'] 29 (0, 0)) ∧ (w7.alloc (.cells #[.int .i64 0, .int .i64 0, .slice S2 0 c2] 29)).ownsRow w.heap.size 5 1 (.slice (some ⟨gp, 0, none⟩) nb cp) nb (pb.map (Value.int .u8)) from ⟨HB6.out.1.trans (M7.mono HB6.out.1.size), bb HB6.out.2.1 M7, bb HB6.out.2.2.1 M7, ownS_below HB6.out.2.2.2 M7⟩)
  clear m7 O7 hc0 hc1 KT1 M7 HB6 hr
  have zz := heap_alloc_new w7 (.cells #[.int .i64 0, .int .i64 0, .slice none 0 0] 29)
  obtain ⟨z0, z1, z2⟩ := sh_cells _ _ _ _ _ zz
  have f0 := sh_frozen zz 0
  have f1 := sh_frozen zz 1
  have f2 := sh_frozen zz 2
  clear zz
  go_upto_region 10 with fail
  clear z0 z1 z2 f0 f1 f2 hw4 g1 g0
  generalize w7.alloc (.cells #[.int .i64 0, .int .i64 0, .slice S2 0 c2] 29) = W8 at *
  generalize w7.heap.size = b11 at *
  have R8 := Lib.hid (Row.of_own HB7.out.2.2.2 (in_wf8 HPB.out.2.1))
  have HO0 := Lib.hid (own_built W8 W8.heap.size (Nat.le_refl _) 5 [] 0 rfl (by unfold maxLen; omega))
  have hnb1 : 1 ≤ nb ∧ nb ≤ 1000 := by have := HNB.out; have := HS.out; omega
  have HNB1 := Lib.hid hnb1
  clear hnb1
  go_wp2_with (first
    | (at_builtin; refine wpList_append_row _ rfl (.tmp 79) (.tmp 80) 30 rfl W8.heap.size 5 i0 (.int .u8 0) 1 Try.underlying30 hi hz0 hz1 hz2 rfl _ 0 [] rfl HO0.out .u8 _ (some ⟨gp, 0, none⟩) nb cp pb rfl HPB.out.1 (R8.out.allocS _) (fun h => by cases h) (by unfold maxLen; have := HNB1.out; omega) (by have := HNB1.out; omega) (by simp) ?_; intro v5 w9 O9 g9; simp only [Nat.zero_add, List.nil_append] at O9; have M9 := Lib.hid (((Below.refl W8.heap.size W8).alloc (Nat.le_refl _) (.cells #[] 5)).grown g9 (by simp) (fun j hj => by cases hj; exact Nat.le_refl _)); clear g9; obtain ⟨g9, c9, rfl, hg9⟩ := own_form O9 (by have := HNB1.out; omega); have HO9 := Lib.hid O9; have HG9 := Lib.hid hg9; clear O9 hg9)
    | (at_builtin; refine wpList_append_row _ rfl (.tmp 81) (.tmp 83) 30 rfl W8.heap.size 5 i0 (.int .u8 0) 1 Try.underlying30 hi hz0 hz1 hz2 rfl _ nb (pb.map (Value.int .u8)) rfl (own_below HO9.out ((Below.refl _ w9).alloc (Nat.le_refl _) (.cells #[.int .u8 x] 5))) .u8 _ _ 1 1 [x] rfl rfl (Row.built .u8 w9 5 [x] (by intro n hn; rw [List.mem_singleton.1 hn]; exact HX.out)) (fun h => by cases h) (by unfold maxLen; have := HNB1.out; omega) (by have := HNB1.out; omega) (by have := M9.out.size; simp; omega) ?_; intro v6 w10 O10 g10; have M10 := Lib.hid (M9.out.trans (((Below.refl W8.heap.size w9).alloc M9.out.size (.cells #[.int .u8 x] 5)).grown g10 (by have := M9.out.size; simp; omega) (fun j hj => by cases hj; exact HG9.out))); clear g10; obtain ⟨A10, c10, rfl, hc0, hc1, hc2⟩ := ownS_slice O10; have HO10 := Lib.hid O10; have HC10 := Lib.hid hc1; clear O10 hc0 hc1 hc2))
  have KT2 := Lib.hid (HPB.out.2.2.2.2.1 ▸ sTake_any A10 (nb + 1) c10 (pb ++ [x]) (by rw [List.length_append, HPB.out.1]; rfl) HC10.out (by have := HNB1.out; omega) w10 (Row.of_own (k := .u8) (zs := pb ++ [x]) (base := W8.heap.size) (e := 5) (n := nb + 1) (by have := HO10.out; rw [← List.map_append] at this; exact this) (in_wf8 (in_app HPB.out.2.1 (by
    intro y hy
    rw [List.mem_singleton.1 hy]
    exact wf_u8.1 HX.out)))))
  refine KT2.out.mono ?_
  rintro e w11 hr
  obtain ⟨S3, c3, rfl, hc0, hc1, O11, m11⟩ := hr.slice (n := 0) rfl
  have M11 := M10.out.trans ((m11.trans (((Below.refl w11.heap.size w11).alloc (Nat.le_refl _) (.cells #[.int .i64 0, .int .i64 0, .slice S3 0 c3] 29)).mono m11.size)).mono M10.out.size)
  have HB11 := Lib.hid (show Below w.heap.size w (w11.alloc (.cells #[.int .i64 0, .int .i64 0, .slice S3 0 c3] 29)) ∧ (w11.alloc (.cells #[.int .i64 0, .int .i64 0, .slice S3 0 c3] 29)).heap[w.heap.size]? = some (.cells #[.int .i64 ba, .int .i64 tv, .slice sa sn sc] 29 (0, 0)) ∧ (w11.alloc (.cells #[.int .i64 0, .int .i64 0, .slice S3 0 c3] 29)).heap[w.heap.size + 1]? = some (.cells #[.int .i64 ba', .int .i64 tv', .slice sa' sn' sc'] 29 (0, 0)) ∧ (w11.alloc (.cells #[.int .i64 0, .int .i64 0, .slice S3 0 c3] 29)).ownsRow w.heap.size 5 1 (.slice (some ⟨gp, 0, none⟩) nb cp) nb (pb.map (Value.int .u8)) from ⟨HB7.out.1.trans (M11.mono HB7.out.1.size), bb HB7.out.2.1 M11, bb HB7.out.2.2.1 M11, ownS_below HB7.out.2.2.2 M11⟩)
  clear m11 O11 hc0 hc1 KT2 M11 HB7 M10 M9 HO9 HG9 HO10 HC10 HO0 R8 hr
  have zz := heap_alloc_new w11 (.cells #[.int .i64 0, .int .i64 0, .slice none 0 0] 29)
  obtain ⟨z0, z1, z2⟩ := sh_cells _ _ _ _ _ zz
  have f0 := sh_frozen zz 0
  have f1 := sh_frozen zz 1
  have f2 := sh_frozen zz 2
  clear zz
  go_upto_region 11 with fail
  clear z0 z1 z2 f0 f1 f2
  generalize w11.alloc (.cells #[.int .i64 0, .int .i64 0, .slice S3 0 c3] 29) = W11 at *
  generalize w11.heap.size = b13 at *
  obtain ⟨r0, r1, r2⟩ := sh_cells _ _ _ _ _ HB11.out.2.2.1
  have KP2 := Lib.hid (sPut_any ba' tv' sa' sn' sc' rs' HL.out.2.1 (by have := HS.out; omega) W11 (RS2.out W11 HB11.out.1))
  go_wp2_with fail
  refine KP2.out.mono ?_
  rintro e w12 ⟨v, rfl, O12, m12⟩
  have HB12 := Lib.hid (show Below w.heap.size w w12 ∧ w12.heap[w.heap.size]? = some (.cells #[.int .i64 ba, .int .i64 tv, .slice sa sn sc] 29 (0, 0)) ∧ w12.heap[w.heap.size + 1]? = some (.cells #[.int .i64 ba', .int .i64 tv', .slice sa' sn' sc'] 29 (0, 0)) ∧ w12.ownsRow w.heap.size 5 1 (.slice (some ⟨gp, 0, none⟩) nb cp) nb (pb.map (Value.int .u8)) from ⟨HB11.out.1.trans (m12.mono HB11.out.1.size), bb HB11.out.2.1 m12, bb HB11.out.2.2.1 m12, ownS_below HB11.out.2.2.2 m12⟩)
  clear r0 r1 r2 KP2
  obtain ⟨g, hg⟩ : ∃ g, shOk ba' tv' rs' = g := ⟨_, rfl⟩
  have HM := Lib.hid (And.intro hg (And.intro O12 m12))
  clear hg O12 m12
  go_upto_region 12 with fail
  cases g
  · have hsp : spB ba' tv' rs' = [] ∧ spE ba' tv' rs' = 2 := by
      unfold spB spE
      rw [HM.out.1]
      exact ⟨rfl, rfl⟩
    rw [hsp.2]
    clear hsp HM
    (try simp only [List.append])
    have nc := (Below.refl w12.heap.size w12).drew
    have CS := Lib.hid (fun W (m : Below w12.heap.size w12 W) => show W.cell? ⟨w.heap.size, 0, none⟩ = some (.int .i64 ba) ∧ W.cell? ⟨w.heap.size, 1, none⟩ = some (.int .i64 tv) ∧ W.cell? ⟨w.heap.size, 2, none⟩ = some (.slice sa sn sc) ∧ W.cell? ⟨w.heap.size + 1, 0, none⟩ = some (.int .i64 ba') ∧ W.cell? ⟨w.heap.size + 1, 1, none⟩ = some (.int .i64 tv') ∧ W.cell? ⟨w.heap.size + 1, 2, none⟩ = some (.slice sa' sn' sc') from by
      obtain ⟨a0, a1, a2⟩ := sh_cells _ _ _ _ _ (bb HB12.out.2.1 m)
      obtain ⟨d0, d1, d2⟩ := sh_cells _ _ _ _ _ (bb HB12.out.2.2.1 m)
      exact ⟨a0, a1, a2, d0, d1, d2⟩)
    have HLB := Lib.hid HB12.out.1
    clear HB12 HPB HX HL HS RS RS2 HNB HNB1 hi hz0 hz1 hz2
    refine wp_region_held_drew (S := fun W => W.cell? ⟨w.heap.size, 0, none⟩ = some (.int .i64 ba) ∧ W.cell? ⟨w.heap.size, 1, none⟩ = some (.int .i64 tv) ∧ W.cell? ⟨w.heap.size, 2, none⟩ = some (.slice sa sn sc) ∧ W.cell? ⟨w.heap.size + 1, 0, none⟩ = some (.int .i64 ba') ∧ W.cell? ⟨w.heap.size + 1, 1, none⟩ = some (.int .i64 tv') ∧ W.cell? ⟨w.heap.size + 1, 2, none⟩ = some (.slice sa' sn' sc')) (by kernel_rfl) (CS.out _ nc) (fun hHeld => ?_)
    refine wpAnyH_take (i := 0) (oi := { dst := some 93, op := Op.move (Operand.tmp 12), type := 33, pos := "law.go:81", after := #[], guard := none }) (v := ?_) rfl (by kernel_rfl) (by kernel_rfl) (by kernel_rfl) (fun _ _ _ h => h) (Or.inl ⟨by rfl, ?_⟩) (by assumption) ?_
    rotate_left
    · intro w hSw
      (try dsimp only at hSw)
      first | (go_simp; done) | (go_simp; with_reducible rfl)
    (try simp only [Act.put, List.setIfInBounds_toArray, List.set_cons_zero, List.set_cons_succ])
    refine wpAnyH_take (i := 1) (oi := { dst := some 94, op := Op.binOp BinOp.eql 33 (Operand.tmp 93) (Operand.const (Value.int IntKind.i64 61)) 33, type := 4, pos := "law.go:81", after := #[{ on := 0, ground := Ground.data }], guard := none }) (v := ?_) rfl (by kernel_rfl) (by kernel_rfl) (by kernel_rfl) (fun _ _ _ h => h) (Or.inl ⟨by rfl, ?_⟩) (by assumption) ?_
    rotate_left
    · intro w hSw
      (try dsimp only at hSw)
      first | (go_simp; done) | (go_simp; with_reducible rfl)
    (try simp only [Act.put, List.setIfInBounds_toArray, List.set_cons_zero, List.set_cons_succ])
    refine wpAnyH_take (i := 2) (oi := { dst := some 95, op := Op.move (Operand.tmp 94), type := 4, pos := "law.go:81", after := #[{ on := 1, ground := Ground.data }], guard := none }) (v := ?_) rfl (by kernel_rfl) (by kernel_rfl) (by kernel_rfl) (fun _ _ _ h => h) (Or.inl ⟨by rfl, ?_⟩) (by assumption) ?_
    rotate_left
    · intro w hSw
      (try dsimp only at hSw)
      first | (go_simp; done) | (go_simp; with_reducible rfl)
    (try simp only [Act.put, List.setIfInBounds_toArray, List.set_cons_zero, List.set_cons_succ])
    refine wpAnyH_take (i := 3) (oi := { dst := some 96, op := Op.move (Operand.tmp 14), type := 33, pos := "law.go:81", after := #[{ on := 2, ground := Ground.guard }], guard := some (2, true) }) (v := ?_) rfl (by kernel_rfl) (by kernel_rfl) (by kernel_rfl) (fun _ _ _ h => h) (Or.inl ⟨by rfl, ?_⟩) (by assumption) ?_
    rotate_left
    · intro w hSw
      (try dsimp only at hSw)
      first | (go_simp; done) | (go_simp; with_reducible rfl)
    (try simp only [Act.put, List.setIfInBounds_toArray, List.set_cons_zero, List.set_cons_succ])
    refine wpAnyH_take (i := 4) (oi := { dst := some 97, op := Op.binOp BinOp.eql 33 (Operand.tmp 96) (Operand.const (Value.int IntKind.i64 60)) 33, type := 4, pos := "law.go:81", after := #[{ on := 3, ground := Ground.data }, { on := 2, ground := Ground.guard }], guard := some (2, true) }) (v := ?_) rfl (by kernel_rfl) (by kernel_rfl) (by kernel_rfl) (fun _ _ _ h => h) (Or.inl ⟨by rfl, ?_⟩) (by assumption) ?_
    rotate_left
    · intro w hSw
      (try dsimp only at hSw)
      first | (go_simp; done) | (go_simp; with_reducible rfl)
    (try simp only [Act.put, List.setIfInBounds_toArray, List.set_cons_zero, List.set_cons_succ])
    refine wpAnyH_take (i := 5) (oi := { dst := some 98, op := Op.pick (Operand.tmp 95) (Operand.tmp 97) (Operand.const (Value.bool false)), type := 4, pos := "law.go:81", after := #[{ on := 2, ground := Ground.data }, { on := 4, ground := Ground.data }], guard := none }) (v := ?_) rfl (by kernel_rfl) (by kernel_rfl) (by kernel_rfl) (fun _ _ _ h => h) (Or.inl ⟨by rfl, ?_⟩) (by assumption) ?_
    rotate_left
    · intro w hSw
      (try dsimp only at hSw)
      first | (go_simp; done) | (go_simp; with_reducible rfl)
    (try simp only [Act.put, List.setIfInBounds_toArray, List.set_cons_zero, List.set_cons_succ])
    refine wpAnyH_take (i := 6) (oi := { dst := some 99, op := Op.move (Operand.tmp 98), type := 4, pos := "law.go:81", after := #[{ on := 5, ground := Ground.data }, { on := 2, ground := Ground.chain }], guard := none }) (v := ?_) rfl (by kernel_rfl) (by kernel_rfl) (by kernel_rfl) (fun _ _ _ h => h) (Or.inl ⟨by rfl, ?_⟩) (by assumption) ?_
    rotate_left
    · intro w hSw
      (try dsimp only at hSw)
      first | (go_simp; done) | (go_simp; with_reducible rfl)
    (try simp only [Act.put, List.setIfInBounds_toArray, List.set_cons_zero, List.set_cons_succ])
    refine wpAnyH_take (i := 7) (oi := { dst := some 100, op := Op.move (Operand.tmp 16), type := 33, pos := "law.go:81", after := #[{ on := 6, ground := Ground.guard }], guard := some (6, true) }) (v := ?_) rfl (by kernel_rfl) (by kernel_rfl) (by kernel_rfl) (fun _ _ _ h => h) (Or.inl ⟨by rfl, ?_⟩) (by assumption) ?_
    rotate_left
    · intro w hSw
      (try dsimp only at hSw)
      first | (go_simp; done) | (go_simp; with_reducible rfl)
    (try simp only [Act.put, List.setIfInBounds_toArray, List.set_cons_zero, List.set_cons_succ])
    refine wpAnyH_take (i := 8) (oi := { dst := some 101, op := Op.binOp BinOp.neq 33 (Operand.tmp 100) (Operand.const (Value.int IntKind.i64 0)) 33, type := 4, pos := "law.go:81", after := #[{ on := 7, ground := Ground.data }, { on := 6, ground := Ground.guard }], guard := some (6, true) }) (v := ?_) rfl (by kernel_rfl) (by kernel_rfl) (by kernel_rfl) (fun _ _ _ h => h) (Or.inl ⟨by rfl, ?_⟩) (by assumption) ?_
    rotate_left
    · intro w hSw
      (try dsimp only at hSw)
      first | (go_simp; done) | (go_simp; with_reducible rfl)
    (try simp only [Act.put, List.setIfInBounds_toArray, List.set_cons_zero, List.set_cons_succ])
    refine wpAnyH_take (i := 9) (oi := { dst := some 102, op := Op.move (Operand.tmp 101), type := 4, pos := "law.go:81", after := #[{ on := 8, ground := Ground.data }, { on := 6, ground := Ground.chain }, { on := 6, ground := Ground.guard }], guard := some (6, true) }) (v := ?_) rfl (by kernel_rfl) (by kernel_rfl) (by kernel_rfl) (fun _ _ _ h => h) (Or.inl ⟨by rfl, ?_⟩) (by assumption) ?_
    rotate_left
    · intro w hSw
      (try dsimp only at hSw)
      first | (go_simp; done) | (go_simp; with_reducible rfl)
    (try simp only [Act.put, List.setIfInBounds_toArray, List.set_cons_zero, List.set_cons_succ])
    refine wpAnyH_take (i := 10) (oi := { dst := some 103, op := Op.move (Operand.tmp 7), type := 30, pos := "law.go:81", after := #[{ on := 9, ground := Ground.guard }], guard := some (9, false) }) (v := undef) rfl (by kernel_rfl) (by kernel_rfl) (by kernel_rfl) (fun _ _ _ h => h) (Or.inr ⟨by rfl, rfl⟩) (by assumption) ?_
    (try simp only [Act.put, List.setIfInBounds_toArray, List.set_cons_zero, List.set_cons_succ])
    refine wpAnyH_take (i := 11) (oi := { dst := some 104, op := Op.move (Operand.tmp 15), type := 30, pos := "law.go:81", after := #[{ on := 9, ground := Ground.guard }], guard := some (9, false) }) (v := undef) rfl (by kernel_rfl) (by kernel_rfl) (by kernel_rfl) (fun _ _ _ h => h) (Or.inr ⟨by rfl, rfl⟩) (by assumption) ?_
    (try simp only [Act.put, List.setIfInBounds_toArray, List.set_cons_zero, List.set_cons_succ])
    refine wpAnyH_take (i := 12) (oi := { dst := some 105, op := Op.call { callee := Callee.value (Operand.func 19), args := #[Operand.tmp 103, Operand.tmp 104], argTypes := #[30, 30] }, type := 4, pos := "law.go:81", after := #[{ on := 10, ground := Ground.data }, { on := 11, ground := Ground.data }, { on := 9, ground := Ground.chain }, { on := 9, ground := Ground.guard }], guard := some (9, false) }) (v := undef) rfl (by kernel_rfl) (by kernel_rfl) (by kernel_rfl) (fun _ _ _ h => h) (Or.inr ⟨by rfl, rfl⟩) (by assumption) ?_
    (try simp only [Act.put, List.setIfInBounds_toArray, List.set_cons_zero, List.set_cons_succ])
    refine wpAnyH_take (i := 13) (oi := { dst := some 106, op := Op.load 29 (Operand.tmp 3), type := 29, pos := "law.go:81", after := #[{ on := 9, ground := Ground.guard }], guard := some (9, false) }) (v := undef) rfl (by kernel_rfl) (by kernel_rfl) (by kernel_rfl) (fun _ _ _ h => h) (Or.inr ⟨by rfl, rfl⟩) (by assumption) ?_
    (try simp only [Act.put, List.setIfInBounds_toArray, List.set_cons_zero, List.set_cons_succ])
    refine wpAnyH_take (i := 14) (oi := { dst := some 107, op := Op.load 29 (Operand.tmp 4), type := 29, pos := "law.go:81", after := #[{ on := 9, ground := Ground.guard }], guard := some (9, false) }) (v := undef) rfl (by kernel_rfl) (by kernel_rfl) (by kernel_rfl) (fun _ _ _ h => h) (Or.inr ⟨by rfl, rfl⟩) (by assumption) ?_
    (try simp only [Act.put, List.setIfInBounds_toArray, List.set_cons_zero, List.set_cons_succ])
    refine wpAnyH_take (i := 15) (oi := { dst := some 108, op := Op.call { callee := Callee.value (Operand.func 18), args := #[Operand.tmp 106, Operand.tmp 107], argTypes := #[29, 29] }, type := 4, pos := "law.go:81", after := #[{ on := 13, ground := Ground.data }, { on := 14, ground := Ground.data }, { on := 12, ground := Ground.chain }, { on := 9, ground := Ground.guard }], guard := some (9, false) }) (v := undef) rfl (by kernel_rfl) (by kernel_rfl) (by kernel_rfl) (fun _ _ _ h => h) (Or.inr ⟨by rfl, rfl⟩) (by assumption) ?_
    (try simp only [Act.put, List.setIfInBounds_toArray, List.set_cons_zero, List.set_cons_succ])
    refine wpAnyH_take (i := 16) (oi := { dst := some 109, op := Op.binOp BinOp.eql 4 (Operand.tmp 105) (Operand.tmp 108) 4, type := 4, pos := "law.go:81", after := #[{ on := 12, ground := Ground.data }, { on := 15, ground := Ground.data }, { on := 9, ground := Ground.guard }], guard := some (9, false) }) (v := undef) rfl (by kernel_rfl) (by kernel_rfl) (by kernel_rfl) (fun _ _ _ h => h) (Or.inr ⟨by rfl, rfl⟩) (by assumption) ?_
    (try simp only [Act.put, List.setIfInBounds_toArray, List.set_cons_zero, List.set_cons_succ])
    refine wpAnyH_take (i := 17) (oi := { dst := some 110, op := Op.pick (Operand.tmp 102) (Operand.const (Value.bool true)) (Operand.tmp 109), type := 4, pos := "law.go:81", after := #[{ on := 9, ground := Ground.data }, { on := 16, ground := Ground.data }, { on := 6, ground := Ground.guard }], guard := some (6, true) }) (v := ?_) rfl (by kernel_rfl) (by kernel_rfl) (by kernel_rfl) (fun _ _ _ h => h) (Or.inl ⟨by rfl, ?_⟩) (by assumption) ?_
    rotate_left
    · intro w hSw
      (try dsimp only at hSw)
      first | (go_simp; done) | (go_simp; with_reducible rfl)
    (try simp only [Act.put, List.setIfInBounds_toArray, List.set_cons_zero, List.set_cons_succ])
    refine wpAnyH_take (i := 18) (oi := { dst := some 111, op := Op.pick (Operand.tmp 99) (Operand.tmp 110) (Operand.const (Value.bool false)), type := 4, pos := "law.go:81", after := #[{ on := 6, ground := Ground.data }, { on := 17, ground := Ground.data }], guard := none }) (v := ?_) rfl (by kernel_rfl) (by kernel_rfl) (by kernel_rfl) (fun _ _ _ h => h) (Or.inl ⟨by rfl, ?_⟩) (by assumption) ?_
    rotate_left
    · intro w hSw
      (try dsimp only at hSw)
      first | (go_simp; done) | (go_simp; with_reducible rfl)
    (try simp only [Act.put, List.setIfInBounds_toArray, List.set_cons_zero, List.set_cons_succ])
    refine wpAnyH_take (i := 19) (oi := { dst := some 112, op := Op.move (Operand.tmp 111), type := 4, pos := "law.go:81", after := #[{ on := 18, ground := Ground.data }, { on := 15, ground := Ground.chain }], guard := none }) (v := ?_) rfl (by kernel_rfl) (by kernel_rfl) (by kernel_rfl) (fun _ _ _ h => h) (Or.inl ⟨by rfl, ?_⟩) (by assumption) ?_
    rotate_left
    · intro w hSw
      (try dsimp only at hSw)
      first | (go_simp; done) | (go_simp; with_reducible rfl)
    (try simp only [Act.put, List.setIfInBounds_toArray, List.set_cons_zero, List.set_cons_succ])
    refine wpAnyH_ready (rs := [20]) (by kernel_rfl) (by simp) ?_
    refine AllReadyH.cons (o := { dst := some 113, op := Op.call { callee := Callee.value (Operand.func 9), args := #[], argTypes := #[] }, type := 4, pos := "law.go:81", after := #[{ on := 19, ground := Ground.chain }, { on := 19, ground := Ground.guard }], guard := some (19, true) }) rfl (fun K hK => ?_) AllReadyH.nil
    go_simp
    refine (WKS.out _).mono ?_
    rintro e wx ⟨rfl, jx⟩
    replace nc := nc.trans (jx.mono nc.size)
    clear jx
    refine hK.out _ _ (CS.out _ nc) (fun hHeld => ?_)
    clear hK K
    (try simp only [Act.put, List.setIfInBounds_toArray, List.set_cons_zero, List.set_cons_succ])
    refine wpAnyH_take (i := 21) (oi := { dst := some 114, op := Op.pick (Operand.tmp 112) (Operand.tmp 113) (Operand.const (Value.bool false)), type := 4, pos := "law.go:81", after := #[{ on := 19, ground := Ground.data }, { on := 20, ground := Ground.data }], guard := none }) (v := ?_) rfl (by kernel_rfl) (by kernel_rfl) (by kernel_rfl) (fun _ _ _ h => h) (Or.inl ⟨by rfl, ?_⟩) (by assumption) ?_
    rotate_left
    · intro w hSw
      (try dsimp only at hSw)
      first | (go_simp; done) | (go_simp; with_reducible rfl)
    (try simp only [Act.put, List.setIfInBounds_toArray, List.set_cons_zero, List.set_cons_succ])
    refine wpAnyH_take (i := 22) (oi := { dst := some 6, op := Op.assign (Operand.tmp 114), type := 4, pos := "law.go:81", after := #[{ on := 21, ground := Ground.data }, { on := 20, ground := Ground.chain }, { on := 0, ground := Ground.phase }, { on := 1, ground := Ground.phase }, { on := 2, ground := Ground.phase }, { on := 3, ground := Ground.phase }, { on := 4, ground := Ground.phase }, { on := 5, ground := Ground.phase }, { on := 6, ground := Ground.phase }, { on := 7, ground := Ground.phase }, { on := 8, ground := Ground.phase }, { on := 9, ground := Ground.phase }, { on := 10, ground := Ground.phase }, { on := 11, ground := Ground.phase }, { on := 12, ground := Ground.phase }, { on := 13, ground := Ground.phase }, { on := 14, ground := Ground.phase }, { on := 15, ground := Ground.phase }, { on := 16, ground := Ground.phase }, { on := 17, ground := Ground.phase }, { on := 18, ground := Ground.phase }, { on := 19, ground := Ground.phase }, { on := 20, ground := Ground.phase }, { on := 21, ground := Ground.phase }], guard := none }) (v := ?_) rfl (by kernel_rfl) (by kernel_rfl) (by kernel_rfl) (fun _ _ _ h => h) (Or.inl ⟨by rfl, ?_⟩) (by assumption) ?_
    rotate_left
    · intro w hSw
      (try dsimp only at hSw)
      first | (go_simp; done) | (go_simp; with_reducible rfl)
    (try simp only [Act.put, List.setIfInBounds_toArray, List.set_cons_zero, List.set_cons_succ])
    refine wpAnyH_done (by kernel_rfl) ?_ _
    have L := HLB.out.trans (nc.mono HLB.out.size)
    clear CS hHeld
    go_wp2
    go_ret
    exact ⟨rfl, L⟩
  · have hsp : spB ba' tv' rs' = shB ba' tv' rs' ∧ spE ba' tv' rs' = 0 := by
      unfold spB spE
      rw [HM.out.1]
      exact ⟨rfl, rfl⟩
    have O12 := HM.out.2.1
    rw [hsp.1] at O12
    rw [hsp.2]
    have hpi := HPB.out.2.2.2.2.2.1 HM.out.1
    have hin2 := shB_in ba' tv' rs'
    have hl2 := shB_len ba' tv' rs'
    generalize shB ba' tv' rs' = pc at *
    obtain ⟨P2, cp2, rfl, hc0, hc1, hc2⟩ := ownS_slice O12
    obtain ⟨gb, hgb⟩ : ∃ gb, smS ba tv rs ba' tv' rs' = gb := ⟨_, rfl⟩
    rw [hgb] at hpi
    have KSM := Lib.hid (fun W (m : Below w12.heap.size w12 W) => show Calls Try.prog 19 #[.slice (some ⟨gp, 0, none⟩) nb cp, .slice P2 pc.length cp2] W (fun e w' => e = .returned (.bool gb) ∧ W = w') from
      hpi ▸ law11Same_any (some ⟨gp, 0, none⟩) nb cp pb P2 pc.length cp2 pc W.heap.size W.heap.size W (Row.of_own (ownS_below HB12.out.2.2.2 m) (in_wf8 HPB.out.2.1)) HPB.out.1 (Row.of_own (ownS_below O12 m) (in_wf8 hin2)) rfl)
    have KSR := Lib.hid (fun W (m : Below w12.heap.size w12 W) => show Calls Try.prog 18 #[.agg #[.int .i64 ba, .int .i64 tv, .slice sa sn sc], .agg #[.int .i64 ba', .int .i64 tv', .slice sa' sn' sc']] W (fun e w' => e = .returned (.bool gb) ∧ Below W.heap.size W w') from
      hgb ▸ r11Same_any ba tv sa sn sc ba' tv' sa' sn' sc' rs rs' HL.out.1 (by have := HS.out; omega) HL.out.2.1 (by have := HS.out; omega) W (RS.out W (HB12.out.1.trans (m.mono HB12.out.1.size))) (RS2.out W (HB12.out.1.trans (m.mono HB12.out.1.size))))
    clear hsp HM hpi hin2 hl2 O12 hc0 hc1 hc2 hgb
    generalize pc.length = pl at *
    (try simp only [List.append])
    have nc := (Below.refl w12.heap.size w12).drew
    have CS := Lib.hid (fun W (m : Below w12.heap.size w12 W) => show W.cell? ⟨w.heap.size, 0, none⟩ = some (.int .i64 ba) ∧ W.cell? ⟨w.heap.size, 1, none⟩ = some (.int .i64 tv) ∧ W.cell? ⟨w.heap.size, 2, none⟩ = some (.slice sa sn sc) ∧ W.cell? ⟨w.heap.size + 1, 0, none⟩ = some (.int .i64 ba') ∧ W.cell? ⟨w.heap.size + 1, 1, none⟩ = some (.int .i64 tv') ∧ W.cell? ⟨w.heap.size + 1, 2, none⟩ = some (.slice sa' sn' sc') from by
      obtain ⟨a0, a1, a2⟩ := sh_cells _ _ _ _ _ (bb HB12.out.2.1 m)
      obtain ⟨d0, d1, d2⟩ := sh_cells _ _ _ _ _ (bb HB12.out.2.2.1 m)
      exact ⟨a0, a1, a2, d0, d1, d2⟩)
    have HLB := Lib.hid HB12.out.1
    clear HB12 HPB HX HL HS RS RS2 HNB HNB1 hi hz0 hz1 hz2
    cases gb
    · refine wp_region_held_drew (S := fun W => W.cell? ⟨w.heap.size, 0, none⟩ = some (.int .i64 ba) ∧ W.cell? ⟨w.heap.size, 1, none⟩ = some (.int .i64 tv) ∧ W.cell? ⟨w.heap.size, 2, none⟩ = some (.slice sa sn sc) ∧ W.cell? ⟨w.heap.size + 1, 0, none⟩ = some (.int .i64 ba') ∧ W.cell? ⟨w.heap.size + 1, 1, none⟩ = some (.int .i64 tv') ∧ W.cell? ⟨w.heap.size + 1, 2, none⟩ = some (.slice sa' sn' sc')) (by kernel_rfl) (CS.out _ nc) (fun hHeld => ?_)
      refine wpAnyH_take (i := 0) (oi := { dst := some 93, op := Op.move (Operand.tmp 12), type := 33, pos := "law.go:81", after := #[], guard := none }) (v := ?_) rfl (by kernel_rfl) (by kernel_rfl) (by kernel_rfl) (fun _ _ _ h => h) (Or.inl ⟨by rfl, ?_⟩) (by assumption) ?_
      rotate_left
      · intro w hSw
        (try dsimp only at hSw)
        first | (go_simp; done) | (go_simp; with_reducible rfl)
      (try simp only [Act.put, List.setIfInBounds_toArray, List.set_cons_zero, List.set_cons_succ])
      refine wpAnyH_take (i := 1) (oi := { dst := some 94, op := Op.binOp BinOp.eql 33 (Operand.tmp 93) (Operand.const (Value.int IntKind.i64 61)) 33, type := 4, pos := "law.go:81", after := #[{ on := 0, ground := Ground.data }], guard := none }) (v := ?_) rfl (by kernel_rfl) (by kernel_rfl) (by kernel_rfl) (fun _ _ _ h => h) (Or.inl ⟨by rfl, ?_⟩) (by assumption) ?_
      rotate_left
      · intro w hSw
        (try dsimp only at hSw)
        first | (go_simp; done) | (go_simp; with_reducible rfl)
      (try simp only [Act.put, List.setIfInBounds_toArray, List.set_cons_zero, List.set_cons_succ])
      refine wpAnyH_take (i := 2) (oi := { dst := some 95, op := Op.move (Operand.tmp 94), type := 4, pos := "law.go:81", after := #[{ on := 1, ground := Ground.data }], guard := none }) (v := ?_) rfl (by kernel_rfl) (by kernel_rfl) (by kernel_rfl) (fun _ _ _ h => h) (Or.inl ⟨by rfl, ?_⟩) (by assumption) ?_
      rotate_left
      · intro w hSw
        (try dsimp only at hSw)
        first | (go_simp; done) | (go_simp; with_reducible rfl)
      (try simp only [Act.put, List.setIfInBounds_toArray, List.set_cons_zero, List.set_cons_succ])
      refine wpAnyH_take (i := 3) (oi := { dst := some 96, op := Op.move (Operand.tmp 14), type := 33, pos := "law.go:81", after := #[{ on := 2, ground := Ground.guard }], guard := some (2, true) }) (v := ?_) rfl (by kernel_rfl) (by kernel_rfl) (by kernel_rfl) (fun _ _ _ h => h) (Or.inl ⟨by rfl, ?_⟩) (by assumption) ?_
      rotate_left
      · intro w hSw
        (try dsimp only at hSw)
        first | (go_simp; done) | (go_simp; with_reducible rfl)
      (try simp only [Act.put, List.setIfInBounds_toArray, List.set_cons_zero, List.set_cons_succ])
      refine wpAnyH_take (i := 4) (oi := { dst := some 97, op := Op.binOp BinOp.eql 33 (Operand.tmp 96) (Operand.const (Value.int IntKind.i64 60)) 33, type := 4, pos := "law.go:81", after := #[{ on := 3, ground := Ground.data }, { on := 2, ground := Ground.guard }], guard := some (2, true) }) (v := ?_) rfl (by kernel_rfl) (by kernel_rfl) (by kernel_rfl) (fun _ _ _ h => h) (Or.inl ⟨by rfl, ?_⟩) (by assumption) ?_
      rotate_left
      · intro w hSw
        (try dsimp only at hSw)
        first | (go_simp; done) | (go_simp; with_reducible rfl)
      (try simp only [Act.put, List.setIfInBounds_toArray, List.set_cons_zero, List.set_cons_succ])
      refine wpAnyH_take (i := 5) (oi := { dst := some 98, op := Op.pick (Operand.tmp 95) (Operand.tmp 97) (Operand.const (Value.bool false)), type := 4, pos := "law.go:81", after := #[{ on := 2, ground := Ground.data }, { on := 4, ground := Ground.data }], guard := none }) (v := ?_) rfl (by kernel_rfl) (by kernel_rfl) (by kernel_rfl) (fun _ _ _ h => h) (Or.inl ⟨by rfl, ?_⟩) (by assumption) ?_
      rotate_left
      · intro w hSw
        (try dsimp only at hSw)
        first | (go_simp; done) | (go_simp; with_reducible rfl)
      (try simp only [Act.put, List.setIfInBounds_toArray, List.set_cons_zero, List.set_cons_succ])
      refine wpAnyH_take (i := 6) (oi := { dst := some 99, op := Op.move (Operand.tmp 98), type := 4, pos := "law.go:81", after := #[{ on := 5, ground := Ground.data }, { on := 2, ground := Ground.chain }], guard := none }) (v := ?_) rfl (by kernel_rfl) (by kernel_rfl) (by kernel_rfl) (fun _ _ _ h => h) (Or.inl ⟨by rfl, ?_⟩) (by assumption) ?_
      rotate_left
      · intro w hSw
        (try dsimp only at hSw)
        first | (go_simp; done) | (go_simp; with_reducible rfl)
      (try simp only [Act.put, List.setIfInBounds_toArray, List.set_cons_zero, List.set_cons_succ])
      refine wpAnyH_take (i := 7) (oi := { dst := some 100, op := Op.move (Operand.tmp 16), type := 33, pos := "law.go:81", after := #[{ on := 6, ground := Ground.guard }], guard := some (6, true) }) (v := ?_) rfl (by kernel_rfl) (by kernel_rfl) (by kernel_rfl) (fun _ _ _ h => h) (Or.inl ⟨by rfl, ?_⟩) (by assumption) ?_
      rotate_left
      · intro w hSw
        (try dsimp only at hSw)
        first | (go_simp; done) | (go_simp; with_reducible rfl)
      (try simp only [Act.put, List.setIfInBounds_toArray, List.set_cons_zero, List.set_cons_succ])
      refine wpAnyH_take (i := 8) (oi := { dst := some 101, op := Op.binOp BinOp.neq 33 (Operand.tmp 100) (Operand.const (Value.int IntKind.i64 0)) 33, type := 4, pos := "law.go:81", after := #[{ on := 7, ground := Ground.data }, { on := 6, ground := Ground.guard }], guard := some (6, true) }) (v := ?_) rfl (by kernel_rfl) (by kernel_rfl) (by kernel_rfl) (fun _ _ _ h => h) (Or.inl ⟨by rfl, ?_⟩) (by assumption) ?_
      rotate_left
      · intro w hSw
        (try dsimp only at hSw)
        first | (go_simp; done) | (go_simp; with_reducible rfl)
      (try simp only [Act.put, List.setIfInBounds_toArray, List.set_cons_zero, List.set_cons_succ])
      refine wpAnyH_take (i := 9) (oi := { dst := some 102, op := Op.move (Operand.tmp 101), type := 4, pos := "law.go:81", after := #[{ on := 8, ground := Ground.data }, { on := 6, ground := Ground.chain }, { on := 6, ground := Ground.guard }], guard := some (6, true) }) (v := ?_) rfl (by kernel_rfl) (by kernel_rfl) (by kernel_rfl) (fun _ _ _ h => h) (Or.inl ⟨by rfl, ?_⟩) (by assumption) ?_
      rotate_left
      · intro w hSw
        (try dsimp only at hSw)
        first | (go_simp; done) | (go_simp; with_reducible rfl)
      (try simp only [Act.put, List.setIfInBounds_toArray, List.set_cons_zero, List.set_cons_succ])
      refine wpAnyH_take (i := 10) (oi := { dst := some 103, op := Op.move (Operand.tmp 7), type := 30, pos := "law.go:81", after := #[{ on := 9, ground := Ground.guard }], guard := some (9, false) }) (v := ?_) rfl (by kernel_rfl) (by kernel_rfl) (by kernel_rfl) (fun _ _ _ h => h) (Or.inl ⟨by rfl, ?_⟩) (by assumption) ?_
      rotate_left
      · intro w hSw
        (try dsimp only at hSw)
        first | (go_simp; done) | (go_simp; with_reducible rfl)
      (try simp only [Act.put, List.setIfInBounds_toArray, List.set_cons_zero, List.set_cons_succ])
      refine wpAnyH_take (i := 11) (oi := { dst := some 104, op := Op.move (Operand.tmp 15), type := 30, pos := "law.go:81", after := #[{ on := 9, ground := Ground.guard }], guard := some (9, false) }) (v := ?_) rfl (by kernel_rfl) (by kernel_rfl) (by kernel_rfl) (fun _ _ _ h => h) (Or.inl ⟨by rfl, ?_⟩) (by assumption) ?_
      rotate_left
      · intro w hSw
        (try dsimp only at hSw)
        first | (go_simp; done) | (go_simp; with_reducible rfl)
      (try simp only [Act.put, List.setIfInBounds_toArray, List.set_cons_zero, List.set_cons_succ])
      refine wpAnyH_take (i := 13) (oi := { dst := some 106, op := Op.load 29 (Operand.tmp 3), type := 29, pos := "law.go:81", after := #[{ on := 9, ground := Ground.guard }], guard := some (9, false) }) (v := ?_) rfl (by kernel_rfl) (by kernel_rfl) (by kernel_rfl) (fun _ _ _ h => h) (Or.inl ⟨by rfl, ?_⟩) (by assumption) ?_
      rotate_left
      · intro w hSw
        (try dsimp only at hSw)
        first | (go_simp; done) | (go_simp; with_reducible rfl)
      (try simp only [Act.put, List.setIfInBounds_toArray, List.set_cons_zero, List.set_cons_succ])
      refine wpAnyH_take (i := 14) (oi := { dst := some 107, op := Op.load 29 (Operand.tmp 4), type := 29, pos := "law.go:81", after := #[{ on := 9, ground := Ground.guard }], guard := some (9, false) }) (v := ?_) rfl (by kernel_rfl) (by kernel_rfl) (by kernel_rfl) (fun _ _ _ h => h) (Or.inl ⟨by rfl, ?_⟩) (by assumption) ?_
      rotate_left
      · intro w hSw
        (try dsimp only at hSw)
        first | (go_simp; done) | (go_simp; with_reducible rfl)
      (try simp only [Act.put, List.setIfInBounds_toArray, List.set_cons_zero, List.set_cons_succ])
      refine wpAnyH_ready (rs := [12]) (by kernel_rfl) (by simp) ?_
      refine AllReadyH.cons (o := { dst := some 105, op := Op.call { callee := Callee.value (Operand.func 19), args := #[Operand.tmp 103, Operand.tmp 104], argTypes := #[30, 30] }, type := 4, pos := "law.go:81", after := #[{ on := 10, ground := Ground.data }, { on := 11, ground := Ground.data }, { on := 9, ground := Ground.chain }, { on := 9, ground := Ground.guard }], guard := some (9, false) }) rfl (fun K hK => ?_) AllReadyH.nil
      go_simp
      refine (KSM.out _ nc).mono ?_
      rintro e wx ⟨rfl, rfl⟩
      refine hK.out _ _ (CS.out _ nc) (fun hHeld => ?_)
      clear hK K
      (try simp only [Act.put, List.setIfInBounds_toArray, List.set_cons_zero, List.set_cons_succ])
      refine wpAnyH_ready (rs := [15]) (by kernel_rfl) (by simp) ?_
      refine AllReadyH.cons (o := { dst := some 108, op := Op.call { callee := Callee.value (Operand.func 18), args := #[Operand.tmp 106, Operand.tmp 107], argTypes := #[29, 29] }, type := 4, pos := "law.go:81", after := #[{ on := 13, ground := Ground.data }, { on := 14, ground := Ground.data }, { on := 12, ground := Ground.chain }, { on := 9, ground := Ground.guard }], guard := some (9, false) }) rfl (fun K hK => ?_) AllReadyH.nil
      go_simp
      refine (KSR.out _ nc).mono ?_
      rintro e wx ⟨rfl, jx⟩
      replace nc := nc.trans (jx.mono nc.size)
      clear jx
      refine hK.out _ _ (CS.out _ nc) (fun hHeld => ?_)
      clear hK K
      (try simp only [Act.put, List.setIfInBounds_toArray, List.set_cons_zero, List.set_cons_succ])
      refine wpAnyH_take (i := 16) (oi := { dst := some 109, op := Op.binOp BinOp.eql 4 (Operand.tmp 105) (Operand.tmp 108) 4, type := 4, pos := "law.go:81", after := #[{ on := 12, ground := Ground.data }, { on := 15, ground := Ground.data }, { on := 9, ground := Ground.guard }], guard := some (9, false) }) (v := ?_) rfl (by kernel_rfl) (by kernel_rfl) (by kernel_rfl) (fun _ _ _ h => h) (Or.inl ⟨by rfl, ?_⟩) (by assumption) ?_
      rotate_left
      · intro w hSw
        (try dsimp only at hSw)
        first | (go_simp; done) | (go_simp; with_reducible rfl)
      (try simp only [Act.put, List.setIfInBounds_toArray, List.set_cons_zero, List.set_cons_succ])
      refine wpAnyH_take (i := 17) (oi := { dst := some 110, op := Op.pick (Operand.tmp 102) (Operand.const (Value.bool true)) (Operand.tmp 109), type := 4, pos := "law.go:81", after := #[{ on := 9, ground := Ground.data }, { on := 16, ground := Ground.data }, { on := 6, ground := Ground.guard }], guard := some (6, true) }) (v := ?_) rfl (by kernel_rfl) (by kernel_rfl) (by kernel_rfl) (fun _ _ _ h => h) (Or.inl ⟨by rfl, ?_⟩) (by assumption) ?_
      rotate_left
      · intro w hSw
        (try dsimp only at hSw)
        first | (go_simp; done) | (go_simp; with_reducible rfl)
      (try simp only [Act.put, List.setIfInBounds_toArray, List.set_cons_zero, List.set_cons_succ])
      refine wpAnyH_take (i := 18) (oi := { dst := some 111, op := Op.pick (Operand.tmp 99) (Operand.tmp 110) (Operand.const (Value.bool false)), type := 4, pos := "law.go:81", after := #[{ on := 6, ground := Ground.data }, { on := 17, ground := Ground.data }], guard := none }) (v := ?_) rfl (by kernel_rfl) (by kernel_rfl) (by kernel_rfl) (fun _ _ _ h => h) (Or.inl ⟨by rfl, ?_⟩) (by assumption) ?_
      rotate_left
      · intro w hSw
        (try dsimp only at hSw)
        first | (go_simp; done) | (go_simp; with_reducible rfl)
      (try simp only [Act.put, List.setIfInBounds_toArray, List.set_cons_zero, List.set_cons_succ])
      refine wpAnyH_take (i := 19) (oi := { dst := some 112, op := Op.move (Operand.tmp 111), type := 4, pos := "law.go:81", after := #[{ on := 18, ground := Ground.data }, { on := 15, ground := Ground.chain }], guard := none }) (v := ?_) rfl (by kernel_rfl) (by kernel_rfl) (by kernel_rfl) (fun _ _ _ h => h) (Or.inl ⟨by rfl, ?_⟩) (by assumption) ?_
      rotate_left
      · intro w hSw
        (try dsimp only at hSw)
        first | (go_simp; done) | (go_simp; with_reducible rfl)
      (try simp only [Act.put, List.setIfInBounds_toArray, List.set_cons_zero, List.set_cons_succ])
      refine wpAnyH_ready (rs := [20]) (by kernel_rfl) (by simp) ?_
      refine AllReadyH.cons (o := { dst := some 113, op := Op.call { callee := Callee.value (Operand.func 9), args := #[], argTypes := #[] }, type := 4, pos := "law.go:81", after := #[{ on := 19, ground := Ground.chain }, { on := 19, ground := Ground.guard }], guard := some (19, true) }) rfl (fun K hK => ?_) AllReadyH.nil
      go_simp
      refine (WKS.out _).mono ?_
      rintro e wx ⟨rfl, jx⟩
      replace nc := nc.trans (jx.mono nc.size)
      clear jx
      refine hK.out _ _ (CS.out _ nc) (fun hHeld => ?_)
      clear hK K
      (try simp only [Act.put, List.setIfInBounds_toArray, List.set_cons_zero, List.set_cons_succ])
      refine wpAnyH_take (i := 21) (oi := { dst := some 114, op := Op.pick (Operand.tmp 112) (Operand.tmp 113) (Operand.const (Value.bool false)), type := 4, pos := "law.go:81", after := #[{ on := 19, ground := Ground.data }, { on := 20, ground := Ground.data }], guard := none }) (v := ?_) rfl (by kernel_rfl) (by kernel_rfl) (by kernel_rfl) (fun _ _ _ h => h) (Or.inl ⟨by rfl, ?_⟩) (by assumption) ?_
      rotate_left
      · intro w hSw
        (try dsimp only at hSw)
        first | (go_simp; done) | (go_simp; with_reducible rfl)
      (try simp only [Act.put, List.setIfInBounds_toArray, List.set_cons_zero, List.set_cons_succ])
      refine wpAnyH_take (i := 22) (oi := { dst := some 6, op := Op.assign (Operand.tmp 114), type := 4, pos := "law.go:81", after := #[{ on := 21, ground := Ground.data }, { on := 20, ground := Ground.chain }, { on := 0, ground := Ground.phase }, { on := 1, ground := Ground.phase }, { on := 2, ground := Ground.phase }, { on := 3, ground := Ground.phase }, { on := 4, ground := Ground.phase }, { on := 5, ground := Ground.phase }, { on := 6, ground := Ground.phase }, { on := 7, ground := Ground.phase }, { on := 8, ground := Ground.phase }, { on := 9, ground := Ground.phase }, { on := 10, ground := Ground.phase }, { on := 11, ground := Ground.phase }, { on := 12, ground := Ground.phase }, { on := 13, ground := Ground.phase }, { on := 14, ground := Ground.phase }, { on := 15, ground := Ground.phase }, { on := 16, ground := Ground.phase }, { on := 17, ground := Ground.phase }, { on := 18, ground := Ground.phase }, { on := 19, ground := Ground.phase }, { on := 20, ground := Ground.phase }, { on := 21, ground := Ground.phase }], guard := none }) (v := ?_) rfl (by kernel_rfl) (by kernel_rfl) (by kernel_rfl) (fun _ _ _ h => h) (Or.inl ⟨by rfl, ?_⟩) (by assumption) ?_
      rotate_left
      · intro w hSw
        (try dsimp only at hSw)
        first | (go_simp; done) | (go_simp; with_reducible rfl)
      (try simp only [Act.put, List.setIfInBounds_toArray, List.set_cons_zero, List.set_cons_succ])
      refine wpAnyH_done (by kernel_rfl) ?_ _
      have L := HLB.out.trans (nc.mono HLB.out.size)
      clear CS hHeld
      go_wp2
      go_ret
      exact ⟨rfl, L⟩
    · refine wp_region_held_drew (S := fun W => W.cell? ⟨w.heap.size, 0, none⟩ = some (.int .i64 ba) ∧ W.cell? ⟨w.heap.size, 1, none⟩ = some (.int .i64 tv) ∧ W.cell? ⟨w.heap.size, 2, none⟩ = some (.slice sa sn sc) ∧ W.cell? ⟨w.heap.size + 1, 0, none⟩ = some (.int .i64 ba') ∧ W.cell? ⟨w.heap.size + 1, 1, none⟩ = some (.int .i64 tv') ∧ W.cell? ⟨w.heap.size + 1, 2, none⟩ = some (.slice sa' sn' sc')) (by kernel_rfl) (CS.out _ nc) (fun hHeld => ?_)
      refine wpAnyH_take (i := 0) (oi := { dst := some 93, op := Op.move (Operand.tmp 12), type := 33, pos := "law.go:81", after := #[], guard := none }) (v := ?_) rfl (by kernel_rfl) (by kernel_rfl) (by kernel_rfl) (fun _ _ _ h => h) (Or.inl ⟨by rfl, ?_⟩) (by assumption) ?_
      rotate_left
      · intro w hSw
        (try dsimp only at hSw)
        first | (go_simp; done) | (go_simp; with_reducible rfl)
      (try simp only [Act.put, List.setIfInBounds_toArray, List.set_cons_zero, List.set_cons_succ])
      refine wpAnyH_take (i := 1) (oi := { dst := some 94, op := Op.binOp BinOp.eql 33 (Operand.tmp 93) (Operand.const (Value.int IntKind.i64 61)) 33, type := 4, pos := "law.go:81", after := #[{ on := 0, ground := Ground.data }], guard := none }) (v := ?_) rfl (by kernel_rfl) (by kernel_rfl) (by kernel_rfl) (fun _ _ _ h => h) (Or.inl ⟨by rfl, ?_⟩) (by assumption) ?_
      rotate_left
      · intro w hSw
        (try dsimp only at hSw)
        first | (go_simp; done) | (go_simp; with_reducible rfl)
      (try simp only [Act.put, List.setIfInBounds_toArray, List.set_cons_zero, List.set_cons_succ])
      refine wpAnyH_take (i := 2) (oi := { dst := some 95, op := Op.move (Operand.tmp 94), type := 4, pos := "law.go:81", after := #[{ on := 1, ground := Ground.data }], guard := none }) (v := ?_) rfl (by kernel_rfl) (by kernel_rfl) (by kernel_rfl) (fun _ _ _ h => h) (Or.inl ⟨by rfl, ?_⟩) (by assumption) ?_
      rotate_left
      · intro w hSw
        (try dsimp only at hSw)
        first | (go_simp; done) | (go_simp; with_reducible rfl)
      (try simp only [Act.put, List.setIfInBounds_toArray, List.set_cons_zero, List.set_cons_succ])
      refine wpAnyH_take (i := 3) (oi := { dst := some 96, op := Op.move (Operand.tmp 14), type := 33, pos := "law.go:81", after := #[{ on := 2, ground := Ground.guard }], guard := some (2, true) }) (v := ?_) rfl (by kernel_rfl) (by kernel_rfl) (by kernel_rfl) (fun _ _ _ h => h) (Or.inl ⟨by rfl, ?_⟩) (by assumption) ?_
      rotate_left
      · intro w hSw
        (try dsimp only at hSw)
        first | (go_simp; done) | (go_simp; with_reducible rfl)
      (try simp only [Act.put, List.setIfInBounds_toArray, List.set_cons_zero, List.set_cons_succ])
      refine wpAnyH_take (i := 4) (oi := { dst := some 97, op := Op.binOp BinOp.eql 33 (Operand.tmp 96) (Operand.const (Value.int IntKind.i64 60)) 33, type := 4, pos := "law.go:81", after := #[{ on := 3, ground := Ground.data }, { on := 2, ground := Ground.guard }], guard := some (2, true) }) (v := ?_) rfl (by kernel_rfl) (by kernel_rfl) (by kernel_rfl) (fun _ _ _ h => h) (Or.inl ⟨by rfl, ?_⟩) (by assumption) ?_
      rotate_left
      · intro w hSw
        (try dsimp only at hSw)
        first | (go_simp; done) | (go_simp; with_reducible rfl)
      (try simp only [Act.put, List.setIfInBounds_toArray, List.set_cons_zero, List.set_cons_succ])
      refine wpAnyH_take (i := 5) (oi := { dst := some 98, op := Op.pick (Operand.tmp 95) (Operand.tmp 97) (Operand.const (Value.bool false)), type := 4, pos := "law.go:81", after := #[{ on := 2, ground := Ground.data }, { on := 4, ground := Ground.data }], guard := none }) (v := ?_) rfl (by kernel_rfl) (by kernel_rfl) (by kernel_rfl) (fun _ _ _ h => h) (Or.inl ⟨by rfl, ?_⟩) (by assumption) ?_
      rotate_left
      · intro w hSw
        (try dsimp only at hSw)
        first | (go_simp; done) | (go_simp; with_reducible rfl)
      (try simp only [Act.put, List.setIfInBounds_toArray, List.set_cons_zero, List.set_cons_succ])
      refine wpAnyH_take (i := 6) (oi := { dst := some 99, op := Op.move (Operand.tmp 98), type := 4, pos := "law.go:81", after := #[{ on := 5, ground := Ground.data }, { on := 2, ground := Ground.chain }], guard := none }) (v := ?_) rfl (by kernel_rfl) (by kernel_rfl) (by kernel_rfl) (fun _ _ _ h => h) (Or.inl ⟨by rfl, ?_⟩) (by assumption) ?_
      rotate_left
      · intro w hSw
        (try dsimp only at hSw)
        first | (go_simp; done) | (go_simp; with_reducible rfl)
      (try simp only [Act.put, List.setIfInBounds_toArray, List.set_cons_zero, List.set_cons_succ])
      refine wpAnyH_take (i := 7) (oi := { dst := some 100, op := Op.move (Operand.tmp 16), type := 33, pos := "law.go:81", after := #[{ on := 6, ground := Ground.guard }], guard := some (6, true) }) (v := ?_) rfl (by kernel_rfl) (by kernel_rfl) (by kernel_rfl) (fun _ _ _ h => h) (Or.inl ⟨by rfl, ?_⟩) (by assumption) ?_
      rotate_left
      · intro w hSw
        (try dsimp only at hSw)
        first | (go_simp; done) | (go_simp; with_reducible rfl)
      (try simp only [Act.put, List.setIfInBounds_toArray, List.set_cons_zero, List.set_cons_succ])
      refine wpAnyH_take (i := 8) (oi := { dst := some 101, op := Op.binOp BinOp.neq 33 (Operand.tmp 100) (Operand.const (Value.int IntKind.i64 0)) 33, type := 4, pos := "law.go:81", after := #[{ on := 7, ground := Ground.data }, { on := 6, ground := Ground.guard }], guard := some (6, true) }) (v := ?_) rfl (by kernel_rfl) (by kernel_rfl) (by kernel_rfl) (fun _ _ _ h => h) (Or.inl ⟨by rfl, ?_⟩) (by assumption) ?_
      rotate_left
      · intro w hSw
        (try dsimp only at hSw)
        first | (go_simp; done) | (go_simp; with_reducible rfl)
      (try simp only [Act.put, List.setIfInBounds_toArray, List.set_cons_zero, List.set_cons_succ])
      refine wpAnyH_take (i := 9) (oi := { dst := some 102, op := Op.move (Operand.tmp 101), type := 4, pos := "law.go:81", after := #[{ on := 8, ground := Ground.data }, { on := 6, ground := Ground.chain }, { on := 6, ground := Ground.guard }], guard := some (6, true) }) (v := ?_) rfl (by kernel_rfl) (by kernel_rfl) (by kernel_rfl) (fun _ _ _ h => h) (Or.inl ⟨by rfl, ?_⟩) (by assumption) ?_
      rotate_left
      · intro w hSw
        (try dsimp only at hSw)
        first | (go_simp; done) | (go_simp; with_reducible rfl)
      (try simp only [Act.put, List.setIfInBounds_toArray, List.set_cons_zero, List.set_cons_succ])
      refine wpAnyH_take (i := 10) (oi := { dst := some 103, op := Op.move (Operand.tmp 7), type := 30, pos := "law.go:81", after := #[{ on := 9, ground := Ground.guard }], guard := some (9, false) }) (v := ?_) rfl (by kernel_rfl) (by kernel_rfl) (by kernel_rfl) (fun _ _ _ h => h) (Or.inl ⟨by rfl, ?_⟩) (by assumption) ?_
      rotate_left
      · intro w hSw
        (try dsimp only at hSw)
        first | (go_simp; done) | (go_simp; with_reducible rfl)
      (try simp only [Act.put, List.setIfInBounds_toArray, List.set_cons_zero, List.set_cons_succ])
      refine wpAnyH_take (i := 11) (oi := { dst := some 104, op := Op.move (Operand.tmp 15), type := 30, pos := "law.go:81", after := #[{ on := 9, ground := Ground.guard }], guard := some (9, false) }) (v := ?_) rfl (by kernel_rfl) (by kernel_rfl) (by kernel_rfl) (fun _ _ _ h => h) (Or.inl ⟨by rfl, ?_⟩) (by assumption) ?_
      rotate_left
      · intro w hSw
        (try dsimp only at hSw)
        first | (go_simp; done) | (go_simp; with_reducible rfl)
      (try simp only [Act.put, List.setIfInBounds_toArray, List.set_cons_zero, List.set_cons_succ])
      refine wpAnyH_take (i := 13) (oi := { dst := some 106, op := Op.load 29 (Operand.tmp 3), type := 29, pos := "law.go:81", after := #[{ on := 9, ground := Ground.guard }], guard := some (9, false) }) (v := ?_) rfl (by kernel_rfl) (by kernel_rfl) (by kernel_rfl) (fun _ _ _ h => h) (Or.inl ⟨by rfl, ?_⟩) (by assumption) ?_
      rotate_left
      · intro w hSw
        (try dsimp only at hSw)
        first | (go_simp; done) | (go_simp; with_reducible rfl)
      (try simp only [Act.put, List.setIfInBounds_toArray, List.set_cons_zero, List.set_cons_succ])
      refine wpAnyH_take (i := 14) (oi := { dst := some 107, op := Op.load 29 (Operand.tmp 4), type := 29, pos := "law.go:81", after := #[{ on := 9, ground := Ground.guard }], guard := some (9, false) }) (v := ?_) rfl (by kernel_rfl) (by kernel_rfl) (by kernel_rfl) (fun _ _ _ h => h) (Or.inl ⟨by rfl, ?_⟩) (by assumption) ?_
      rotate_left
      · intro w hSw
        (try dsimp only at hSw)
        first | (go_simp; done) | (go_simp; with_reducible rfl)
      (try simp only [Act.put, List.setIfInBounds_toArray, List.set_cons_zero, List.set_cons_succ])
      refine wpAnyH_ready (rs := [12]) (by kernel_rfl) (by simp) ?_
      refine AllReadyH.cons (o := { dst := some 105, op := Op.call { callee := Callee.value (Operand.func 19), args := #[Operand.tmp 103, Operand.tmp 104], argTypes := #[30, 30] }, type := 4, pos := "law.go:81", after := #[{ on := 10, ground := Ground.data }, { on := 11, ground := Ground.data }, { on := 9, ground := Ground.chain }, { on := 9, ground := Ground.guard }], guard := some (9, false) }) rfl (fun K hK => ?_) AllReadyH.nil
      go_simp
      refine (KSM.out _ nc).mono ?_
      rintro e wx ⟨rfl, rfl⟩
      refine hK.out _ _ (CS.out _ nc) (fun hHeld => ?_)
      clear hK K
      (try simp only [Act.put, List.setIfInBounds_toArray, List.set_cons_zero, List.set_cons_succ])
      refine wpAnyH_ready (rs := [15]) (by kernel_rfl) (by simp) ?_
      refine AllReadyH.cons (o := { dst := some 108, op := Op.call { callee := Callee.value (Operand.func 18), args := #[Operand.tmp 106, Operand.tmp 107], argTypes := #[29, 29] }, type := 4, pos := "law.go:81", after := #[{ on := 13, ground := Ground.data }, { on := 14, ground := Ground.data }, { on := 12, ground := Ground.chain }, { on := 9, ground := Ground.guard }], guard := some (9, false) }) rfl (fun K hK => ?_) AllReadyH.nil
      go_simp
      refine (KSR.out _ nc).mono ?_
      rintro e wx ⟨rfl, jx⟩
      replace nc := nc.trans (jx.mono nc.size)
      clear jx
      refine hK.out _ _ (CS.out _ nc) (fun hHeld => ?_)
      clear hK K
      (try simp only [Act.put, List.setIfInBounds_toArray, List.set_cons_zero, List.set_cons_succ])
      refine wpAnyH_take (i := 16) (oi := { dst := some 109, op := Op.binOp BinOp.eql 4 (Operand.tmp 105) (Operand.tmp 108) 4, type := 4, pos := "law.go:81", after := #[{ on := 12, ground := Ground.data }, { on := 15, ground := Ground.data }, { on := 9, ground := Ground.guard }], guard := some (9, false) }) (v := ?_) rfl (by kernel_rfl) (by kernel_rfl) (by kernel_rfl) (fun _ _ _ h => h) (Or.inl ⟨by rfl, ?_⟩) (by assumption) ?_
      rotate_left
      · intro w hSw
        (try dsimp only at hSw)
        first | (go_simp; done) | (go_simp; with_reducible rfl)
      (try simp only [Act.put, List.setIfInBounds_toArray, List.set_cons_zero, List.set_cons_succ])
      refine wpAnyH_take (i := 17) (oi := { dst := some 110, op := Op.pick (Operand.tmp 102) (Operand.const (Value.bool true)) (Operand.tmp 109), type := 4, pos := "law.go:81", after := #[{ on := 9, ground := Ground.data }, { on := 16, ground := Ground.data }, { on := 6, ground := Ground.guard }], guard := some (6, true) }) (v := ?_) rfl (by kernel_rfl) (by kernel_rfl) (by kernel_rfl) (fun _ _ _ h => h) (Or.inl ⟨by rfl, ?_⟩) (by assumption) ?_
      rotate_left
      · intro w hSw
        (try dsimp only at hSw)
        first | (go_simp; done) | (go_simp; with_reducible rfl)
      (try simp only [Act.put, List.setIfInBounds_toArray, List.set_cons_zero, List.set_cons_succ])
      refine wpAnyH_take (i := 18) (oi := { dst := some 111, op := Op.pick (Operand.tmp 99) (Operand.tmp 110) (Operand.const (Value.bool false)), type := 4, pos := "law.go:81", after := #[{ on := 6, ground := Ground.data }, { on := 17, ground := Ground.data }], guard := none }) (v := ?_) rfl (by kernel_rfl) (by kernel_rfl) (by kernel_rfl) (fun _ _ _ h => h) (Or.inl ⟨by rfl, ?_⟩) (by assumption) ?_
      rotate_left
      · intro w hSw
        (try dsimp only at hSw)
        first | (go_simp; done) | (go_simp; with_reducible rfl)
      (try simp only [Act.put, List.setIfInBounds_toArray, List.set_cons_zero, List.set_cons_succ])
      refine wpAnyH_take (i := 19) (oi := { dst := some 112, op := Op.move (Operand.tmp 111), type := 4, pos := "law.go:81", after := #[{ on := 18, ground := Ground.data }, { on := 15, ground := Ground.chain }], guard := none }) (v := ?_) rfl (by kernel_rfl) (by kernel_rfl) (by kernel_rfl) (fun _ _ _ h => h) (Or.inl ⟨by rfl, ?_⟩) (by assumption) ?_
      rotate_left
      · intro w hSw
        (try dsimp only at hSw)
        first | (go_simp; done) | (go_simp; with_reducible rfl)
      (try simp only [Act.put, List.setIfInBounds_toArray, List.set_cons_zero, List.set_cons_succ])
      refine wpAnyH_ready (rs := [20]) (by kernel_rfl) (by simp) ?_
      refine AllReadyH.cons (o := { dst := some 113, op := Op.call { callee := Callee.value (Operand.func 9), args := #[], argTypes := #[] }, type := 4, pos := "law.go:81", after := #[{ on := 19, ground := Ground.chain }, { on := 19, ground := Ground.guard }], guard := some (19, true) }) rfl (fun K hK => ?_) AllReadyH.nil
      go_simp
      refine (WKS.out _).mono ?_
      rintro e wx ⟨rfl, jx⟩
      replace nc := nc.trans (jx.mono nc.size)
      clear jx
      refine hK.out _ _ (CS.out _ nc) (fun hHeld => ?_)
      clear hK K
      (try simp only [Act.put, List.setIfInBounds_toArray, List.set_cons_zero, List.set_cons_succ])
      refine wpAnyH_take (i := 21) (oi := { dst := some 114, op := Op.pick (Operand.tmp 112) (Operand.tmp 113) (Operand.const (Value.bool false)), type := 4, pos := "law.go:81", after := #[{ on := 19, ground := Ground.data }, { on := 20, ground := Ground.data }], guard := none }) (v := ?_) rfl (by kernel_rfl) (by kernel_rfl) (by kernel_rfl) (fun _ _ _ h => h) (Or.inl ⟨by rfl, ?_⟩) (by assumption) ?_
      rotate_left
      · intro w hSw
        (try dsimp only at hSw)
        first | (go_simp; done) | (go_simp; with_reducible rfl)
      (try simp only [Act.put, List.setIfInBounds_toArray, List.set_cons_zero, List.set_cons_succ])
      refine wpAnyH_take (i := 22) (oi := { dst := some 6, op := Op.assign (Operand.tmp 114), type := 4, pos := "law.go:81", after := #[{ on := 21, ground := Ground.data }, { on := 20, ground := Ground.chain }, { on := 0, ground := Ground.phase }, { on := 1, ground := Ground.phase }, { on := 2, ground := Ground.phase }, { on := 3, ground := Ground.phase }, { on := 4, ground := Ground.phase }, { on := 5, ground := Ground.phase }, { on := 6, ground := Ground.phase }, { on := 7, ground := Ground.phase }, { on := 8, ground := Ground.phase }, { on := 9, ground := Ground.phase }, { on := 10, ground := Ground.phase }, { on := 11, ground := Ground.phase }, { on := 12, ground := Ground.phase }, { on := 13, ground := Ground.phase }, { on := 14, ground := Ground.phase }, { on := 15, ground := Ground.phase }, { on := 16, ground := Ground.phase }, { on := 17, ground := Ground.phase }, { on := 18, ground := Ground.phase }, { on := 19, ground := Ground.phase }, { on := 20, ground := Ground.phase }, { on := 21, ground := Ground.phase }], guard := none }) (v := ?_) rfl (by kernel_rfl) (by kernel_rfl) (by kernel_rfl) (fun _ _ _ h => h) (Or.inl ⟨by rfl, ?_⟩) (by assumption) ?_
      rotate_left
      · intro w hSw
        (try dsimp only at hSw)
        first | (go_simp; done) | (go_simp; with_reducible rfl)
      (try simp only [Act.put, List.setIfInBounds_toArray, List.set_cons_zero, List.set_cons_succ])
      refine wpAnyH_done (by kernel_rfl) ?_ _
      have L := HLB.out.trans (nc.mono HLB.out.size)
      clear CS hHeld
      go_wp2
      go_ret
      exact ⟨rfl, L⟩
end Go.Proofs.Ytiaikacfdbcmmaa
