/- Package tuple: Less, Cmp. -/
import Derived.Test.YtpbheonapgckfaaDoorTupK
namespace Go.Proofs.YtpbheonapgckfaaDoor
open Go.RowKit Go.Shelf
open SumM

attribute [local go_sem] Oper.semAt_some

set_option maxRecDepth 100000 in
set_option maxHeartbeats 4000000 in
theorem tLess_d (ts td tp tq : Int) (ts' td' tp' tq' : Int) (H : UNums ts td tp tq) (H' : UNums ts' td' tp' tq') (w : World) :
    Calls Tryd.prog 15 #[.agg #[.int .u32 ts, .int .u32 td, .int .u16 tp, .int .u16 tq], .agg #[.int .u32 ts', .int .u32 td', .int .u16 tp', .int .u16 tq']] w fun e w' => e = .returned (.bool (decide (cmpU ts td tp tq ts' td' tp' tq' < 0))) ∧ Below w.heap.size w w' ∧ w'.drawn = w.drawn := by
  rw [← lessP_cmpU H H']
  have bR := Boxed.new ((w.alloc (.cells #[.int .u32 ts, .int .u32 td, .int .u16 tp, .int .u16 tq] 25)).alloc (.cells #[.int .u32 ts', .int .u32 td', .int .u16 tp', .int .u16 tq'] 25)) 4 (.bool false)
  simp only [World.size_alloc] at bR
  have L2 : Below w.heap.size w (((w.alloc (.cells #[.int .u32 ts, .int .u32 td, .int .u16 tp, .int .u16 tq] 25)).alloc (.cells #[.int .u32 ts', .int .u32 td', .int .u16 tp', .int .u16 tq'] 25)).alloc (.cells #[.bool false] 4)) := (((Below.refl _ w).alloc (Nat.le_refl _) _).alloc (by simp) _).alloc (by simp; omega) _
  have dr : (((w.alloc (.cells #[.int .u32 ts, .int .u32 td, .int .u16 tp, .int .u16 tq] 25)).alloc (.cells #[.int .u32 ts', .int .u32 td', .int .u16 tp', .int .u16 tq'] 25)).alloc (.cells #[.bool false] 4)).drawn = w.drawn := rfl
  have z2 : (((w.alloc (.cells #[.int .u32 ts, .int .u32 td, .int .u16 tp, .int .u16 tq] 25)).alloc (.cells #[.int .u32 ts', .int .u32 td', .int .u16 tp', .int .u16 tq'] 25)).alloc (.cells #[.bool false] 4)).heap.size = w.heap.size + 1 + 1 + 1 := by simp
  refine (callsIn_wide (n := 3)).1 ?_
  refine callsIn_of_wp_marks Tryd.func15 rfl trivial ?_ rfl
  simp only [Tryd.ntmps15, List.size_toArray, List.length_cons, List.length_nil, Nat.reduceAdd, Nat.reduceSub, Array.replicate_succ, Array.replicate_zero, List.push_toArray, List.append_toArray, List.nil_append, List.cons_append]
  gi_wp2_with (first
    | (refine ⟨trivial, ?_⟩; gi_at_call 30; refine (numbersOf_in _ _ _ _ _ _ _ _ _ _).mono ?_; rintro e w' ⟨rfl, rfl⟩))
  generalize ((w.alloc (.cells #[.int .u32 ts, .int .u32 td, .int .u16 tp, .int .u16 tq] 25)).alloc (.cells #[.int .u32 ts', .int .u32 td', .int .u16 tp', .int .u16 tq'] 25)).alloc (.cells #[.bool false] 4) = V at *
  have cA := (Below.heap_alloc (V.alloc (.cells #[.int .u32 ts, .int .u32 td, .int .u16 tp, .int .u16 tq] 25)) (.cells #[.int .u32 ts', .int .u32 td', .int .u16 tp', .int .u16 tq'] 25) V.heap.size (by simp)).trans (heap_alloc_new V (.cells #[.int .u32 ts, .int .u32 td, .int .u16 tp, .int .u16 tq] 25))
  have cB := heap_alloc_new (V.alloc (.cells #[.int .u32 ts, .int .u32 td, .int .u16 tp, .int .u16 tq] 25)) (.cells #[.int .u32 ts', .int .u32 td', .int .u16 tp', .int .u16 tq'] 25)
  rw [World.size_alloc] at cB
  rw [z2] at cA cB
  have bR' := (bR.alloc (.cells #[.int .u32 ts, .int .u32 td, .int .u16 tp, .int .u16 tq] 25)).alloc (.cells #[.int .u32 ts', .int .u32 td', .int .u16 tp', .int .u16 tq'] 25)
  have L4 := (L2.alloc (by omega) (.cells #[.int .u32 ts, .int .u32 td, .int .u16 tp, .int .u16 tq] 25)).alloc (by simp; omega) (.cells #[.int .u32 ts', .int .u32 td', .int .u16 tp', .int .u16 tq'] 25)
  have z4 : w.heap.size ≤ ((V.alloc (.cells #[.int .u32 ts, .int .u32 td, .int .u16 tp, .int .u16 tq] 25)).alloc (.cells #[.int .u32 ts', .int .u32 td', .int .u16 tp', .int .u16 tq'] 25)).heap.size := by simp; omega
  have z5 : w.heap.size + 1 + 1 < ((V.alloc (.cells #[.int .u32 ts, .int .u32 td, .int .u16 tp, .int .u16 tq] 25)).alloc (.cells #[.int .u32 ts', .int .u32 td', .int .u16 tp', .int .u16 tq'] 25)).heap.size := by simp; omega
  have dr4 : ((V.alloc (.cells #[.int .u32 ts, .int .u32 td, .int .u16 tp, .int .u16 tq] 25)).alloc (.cells #[.int .u32 ts', .int .u32 td', .int .u16 tp', .int .u16 tq'] 25)).drawn = w.drawn := dr
  clear bR L2 dr
  generalize (V.alloc (.cells #[.int .u32 ts, .int .u32 td, .int .u16 tp, .int .u16 tq] 25)).alloc (.cells #[.int .u32 ts', .int .u32 td', .int .u16 tp', .int .u16 tq'] 25) = V4 at *
  have HU := Lib.hid (And.intro H H')
  clear H H'
  generalize hAv : (.agg #[.int .u32 ts, .int .u32 td, .int .u16 tp, .int .u16 tq] : Value) = AV
  generalize hBv : (.agg #[.int .u32 ts', .int .u32 td', .int .u16 tp', .int .u16 tq'] : Value) = BV
  refine range_plain rfl (by omega) (gf := 36) (lb := #[.pointer (some ⟨w.heap.size + 1 + 1 + 1, 0, none⟩), .pointer (some ⟨w.heap.size + 1 + 1 + 1 + 1, 0, none⟩)]) rfl trivial (enters_of Tryd.func36 (by kernel_rfl) rfl)
    (nums_stops ts td tp tq ts' td' tp' tq' _ (by omega) (w.heap.size + 1 + 1 + 1) (w.heap.size + 1 + 1 + 1 + 1) w.heap.size HU.out.1 HU.out.2 V4 cA cB) keepT_t (keepT_b z4) (fun _ => rfl)
    (fun pre W => ((∀ y ∈ pre, y.1.1 = y.1.2) ∧ Boxed W (w.heap.size + 1 + 1) 4 (.bool false)) ∧ Below w.heap.size w W ∧ W.drawn = w.drawn)
    (fun c pre W => (c = .ret ∧ (∃ a x, pre = a ++ [x] ∧ (∀ y ∈ a, y.1.1 = y.1.2) ∧ x.1.1 ≠ x.1.2 ∧ Boxed W (w.heap.size + 1 + 1) 4 (.bool (decide (x.1.1 < x.1.2))))) ∧ Below w.heap.size w W ∧ W.drawn = w.drawn)
    (Abide2.and (Abide2.of_own (OwnFrom.and (ownFrom_pure _ (fun pre : List PN => ∀ y ∈ pre, y.1.1 = y.1.2)) (Own.from (boxed_own _ _ _) _))) (Abide2.and (Abide2.of_own (ownFrom_below (Nat.le_refl _) z4)) (Abide2.drawn _ _)))
    (fun c => Abide2.and (Abide2.of_own ?ix) (Abide2.and (Abide2.of_own (ownFrom_below (Nat.le_refl _) z4)) (Abide2.drawn _ _)))
    ⟨⟨by simp, bR'⟩, L4, dr4⟩
    (fun x => { tmps := #[AV, BV, .pointer (some ⟨w.heap.size, 0, none⟩), .pointer (some ⟨w.heap.size + 1, 0, none⟩), .pointer (some ⟨w.heap.size + 1 + 1, 0, none⟩), .int .u32 x.1.1, .int .u32 x.1.2, AV, BV, .func (.func 36) #[] #[.pointer (some ⟨w.heap.size + 1 + 1 + 1, 0, none⟩), .pointer (some ⟨w.heap.size + 1 + 1 + 1 + 1, 0, none⟩)], .int .u32 x.1.1, .int .u32 x.1.2, undef, undef, undef, undef, undef, undef], defers := [] }) ?assign ?body ?done ?stop
  case ix =>
    rintro pre W W' row ⟨rfl, a, x, rfl, h1, h2, h3⟩ hg hr
    exact ⟨rfl, a, x, rfl, h1, h2, h3.kept hg (fun e => by have := (hr _ e.symm).1; omega)⟩
  case assign =>
    intro l x W K hK
    gi_wp2
    exact hK
  case body =>
    rintro l pre x W ⟨⟨hp, hc⟩, hB, hd⟩ _
    have hx := x.2
    have hcl := hc.cell
    have hfz := hc.frozen
    rcases Decidable.em (x.1.1 = x.1.2) with he | he
    · have hn : (x.1.1 != x.1.2) = false := by simp [he]
      gi_wp2
      exact ⟨(KeepsOthers.refl _).from _, KeepT.refl _ _ _, ⟨fun y hy => (List.mem_append.1 hy).elim (hp y) (fun e => by simp at e; subst e; exact he), hc⟩, hB, hd⟩
    · have hn : (x.1.1 != x.1.2) = true := by simpa using he
      gi_wp2
      exact ⟨(KeepsOthers.setCell _ _ _).from _, ⟨rfl, pre, x, rfl, hp, he, hc.set _⟩, hB.setCell (p := ⟨w.heap.size + 1 + 1, 0, none⟩) (by simp; omega) _, hd⟩
  case done =>
    rintro D ys W hD hys ⟨⟨hp, hc⟩, hB, hd⟩ hK
    have HD := Lib.hid hd
    clear hd
    have hcl := hc.cell
    have hfz := hc.frozen
    have HY := Lib.hid hys
    clear hys
    gi_wp2
    have hK' := (KeepsOthers.setCell W ⟨w.heap.size + 1 + 1, 0, none⟩ (.bool false)).same D _ hK rfl
    refine ⟨by simp, .inl ⟨_, _, rfl, run_takeDeferred hK', ?_⟩⟩
    have hc5 := cell_kept (hc.set (.bool false)).cell (grownBy_putObj' _ D (.deferred none)) (fun r e => by cases e; exact ⟨_, hK', rfl⟩)
    refine ⟨.bool false, ?_, ?_, (hB.setCell (p := ⟨w.heap.size + 1 + 1, 0, none⟩) (by simp; omega) _).trans (belowK_b (w := w) (Nat.le_refl _) _ D _ _ (by omega) hK' rfl rfl), HD.out⟩
    · simp [results, Tryd.f15, go_sem, hc5]
    · rw [← HY.out, lessP_same]
      intro p hp2
      obtain ⟨y, hy, rfl⟩ := List.mem_map.1 hp2
      exact hp y hy
  case stop =>
    rintro D c pre W hD hpre ⟨⟨rfl, a, x, rfl, hp, hne, hc⟩, hB, hd⟩ hK
    have HD := Lib.hid hd
    clear hd
    have hcl := hc.cell
    have HP := Lib.hid hpre
    clear hpre
    gi_wp2
    refine ⟨by simp, .inl ⟨_, _, rfl, run_takeDeferred hK, ?_⟩⟩
    have hc5 := cell_kept hcl (grownBy_putObj' _ D (.deferred none)) (fun r e => by cases e; exact ⟨_, hK, rfl⟩)
    refine ⟨.bool (decide (x.1.1 < x.1.2)), ?_, ?_, hB.trans (belowK_b (w := w) (Nat.le_refl _) W D _ _ (by omega) hK rfl rfl), HD.out⟩
    · simp [results, Tryd.f15, go_sem, hc5]
    · obtain ⟨r, hr⟩ := HP.out
      rw [← hr, List.map_append, List.append_assoc]
      rw [show List.map (fun y : PN => y.1) [x] ++ r = (x.1.1, x.1.2) :: r from rfl, lessP_at]
      · intro p hp2
        obtain ⟨y, hy, rfl⟩ := List.mem_map.1 hp2
        exact hp y hy
      · exact hne

theorem tLess_any (ts td tp tq : Int) (ts' td' tp' tq' : Int) (H : UNums ts td tp tq) (H' : UNums ts' td' tp' tq') (w : World) :
    Calls Tryd.prog 15 #[.agg #[.int .u32 ts, .int .u32 td, .int .u16 tp, .int .u16 tq], .agg #[.int .u32 ts', .int .u32 td', .int .u16 tp', .int .u16 tq']] w fun e w' => e = .returned (.bool (decide (cmpU ts td tp tq ts' td' tp' tq' < 0))) ∧ Below w.heap.size w w' :=
  (tLess_d ts td tp tq ts' td' tp' tq' H H' w).mono fun _ _ h => ⟨h.1, h.2.1⟩
end Go.Proofs.YtpbheonapgckfaaDoor
