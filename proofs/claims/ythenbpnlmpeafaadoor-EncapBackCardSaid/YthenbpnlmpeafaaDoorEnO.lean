/- Package encap: Nodes: all that the iterator hands out, collected. -/
import Derived.Test.YthenbpnlmpeafaaDoorEnI
import Derived.Test.YthenbpnlmpeafaaDoorRangeOkD
namespace Go.Proofs.YthenbpnlmpeafaaDoor
open Go.RowKit Go.Shelf
open SumM

attribute [local go_sem] Oper.semAt_some

theorem new2_cells (W : World) (u : Nod) (t : TypeId) : ∀ j v, (nodC u)[j]? = some v → (W.alloc (.cells #[.int .u8 u.1, .int .i64 u.2] t)).cell? ((⟨W.heap.size, 0, none⟩ : Addr).add j) = some v := by
  intro j v hv
  rw [addr_add, cell_of_row _ _ _ _ _ _ (heap_alloc_new W _)]
  simpa [nodC] using hv

theorem nodes_okD' (n : Nat) (hn : 1 ≤ n) (w : World) :
    SeqOkD Fence.wide n Tryd.prog 43 #[] encN (fun pre x _ => NodOk pre x) (fun _ _ => True) (fun xs => xs = allN) (fun _ => True) w :=
  fun l J Jx W hW hN _ hY h0 => nodes_ok n hn w l J Jx W hW hN hY h0

def ApInv (w : World) (pre : List Nod) (W : World) : Prop := (∃ v', Boxed W w.heap.size 42 v' ∧ W.ownsRow w.heap.size 23 2 v' pre.length (flatS nodC pre) ∧ True) ∧ Below w.heap.size w W
theorem apInv_abide (w : World) (B : Nat) (hB : w.heap.size + 1 ≤ B) : Abide3 B (ApInv w) :=
  Abide3.of_own (OwnFrom.and (Own.from (holdsRow_own w.heap.size w.heap.size 42 23 2 (fun pre : List Nod => pre.length) (fun pre => flatS nodC pre) (fun _ _ => True)) _) (ownFrom_below (Nat.le_refl _) (by omega)))
theorem ApInv.drew {w W : World} {pre : List Nod} (h : ApInv w pre W) : ApInv w pre W.drew := by
  obtain ⟨⟨v, h1, h2, h3⟩, hb⟩ := h
  exact ⟨⟨v, h1, h2.drew, h3⟩, ⟨hb.os, hb.tape, hb.output, hb.size, hb.block⟩⟩

set_option maxRecDepth 100000 in
set_option maxHeartbeats 4000000 in
theorem appendSeqN_in (n : Nat) (hn : 3 ≤ n) (w : World) :
    CallsIn Fence.wide n Tryd.prog 63 #[.slice none 0 0, .func (.func 43) #[] #[]] w fun e w' =>
      ∃ v', e = .returned v' ∧ w'.ownsRow w.heap.size 23 2 v' 10 (flatS nodC allN) ∧ Below w.heap.size w w' := by
  have h1n : 1 ≤ n := by omega
  obtain ⟨i0, hi, hz0, hz1, hz2⟩ := info_parts Tryd.infoNod
  refine callsIn_of_wp_marks Tryd.func63 rfl trivial ?_ rfl
  simp only [Tryd.ntmps63, List.size_toArray, List.length_cons, List.length_nil, Nat.reduceAdd, Nat.reduceSub, Array.replicate_succ, Array.replicate_zero, List.push_toArray, List.append_toArray, List.nil_append, List.cons_append]
  gi_wp2
  have bS := Boxed.new w 42 (.slice none 0 0)
  have L0 : Below w.heap.size w (w.alloc (.cells #[.slice none 0 0] 42)) := (Below.refl _ w).alloc (Nat.le_refl _) _
  have hs : (w.alloc (.cells #[.slice none 0 0] 42)).heap.size = w.heap.size + 1 := by simp
  refine range_okD rfl h1n (gf := 43) (lb := #[]) rfl trivial (enters_of Tryd.func43 (by kernel_rfl) rfl)
      (nodes_okD' (n - 1) (by omega) _) (fun _ _ _ _ _ _ h _ _ _ => h) (fun _ _ => trivial) (fun _ _ _ _ _ _ _ _ => trivial) (fun _ => rfl)
      (ApInv w) (fun _ _ _ => False) (apInv_abide w _ (by omega)) (fun _ => ⟨fun _ _ _ h => h, fun _ _ _ _ _ h _ _ _ => h⟩) (fun _ _ h => h.drew) ⟨⟨_, bS, World.ownsRow_nil _ _ _ _, trivial⟩, L0⟩
      (fun u => .cells #[.int .u8 u.1, .int .i64 u.2] 23) (fun _ _ => trivial) (fun _ _ _ h => h)
      (fun u b => { tmps := #[.slice none 0 0, .func (.func 43) #[] #[], .pointer (some ⟨w.heap.size, 0, none⟩), undef, .slice none 0 0, .pointer (some ⟨b, 0, none⟩), .func (.func 43) #[] #[], .agg #[.int .u8 u.1, .int .i64 u.2], undef, undef, undef, undef, undef], defers := [] }) ?assign ?body ?done ?stop
  case assign =>
    intro l x W K hK
    simp only [encN] at hK ⊢
    gi_wp2
    exact hK
  case stop =>
    rintro D c pre W hD _ h
    exact h.elim
  case done =>
    rintro D ys W hD rfl ⟨⟨v', hv, hrow, _⟩, hB'⟩ hK
    have hc := hv.cell
    gi_wp2
    refine ⟨by simp, .inl ⟨_, _, rfl, run_takeDeferred hK, ?_⟩⟩
    have hrow' := ownsRow_putObj hrow (.deferred none) hK rfl
    have hbb := hB'.trans (belowK_b (w := w) (Nat.le_refl _) W D _ (.deferred none) (by simp at hD; omega) hK rfl rfl)
    exact ⟨_, results_tmp rfl _ _ _, v', rfl, hrow', hbb⟩
  case body =>
    rintro l pre ⟨x1, x2⟩ W b ⟨⟨v, hv, hrow, _⟩, hB'⟩ hx hb1 hb2 hbx
    have hc := hv.cell
    obtain ⟨q0, q1⟩ := nod_cells _ _ hbx
    have hpl : pre.length < 10 := (List.getElem?_eq_some_iff.1 hx.2).1
    gi_wp2_with (gi_at_builtin; refine wpListIn_append_own _ rfl _ _ 42 rfl w.heap.size 23 i0 (.agg #[.int .u8 0, .int .i64 0]) 2 16 Tryd.underlying42 hi hz0 hz1 hz2 rfl (by decide) _ _ _ rfl (hrow.alloc _) ⟨W.heap.size, 0, none⟩ 1 1 (nodC (x1, x2)) rfl rfl (new2_cells W (x1, x2) _) (nodC_one _) (by unfold maxLen; omega) (by omega) (by have := hB'.size; simp; omega) ?_; intro v2 w2 hown' hgrow _; obtain ⟨g', cap', rfl⟩ := ownsRow_succ hown'; obtain ⟨hv1, hv2, hr2, hk2, hb2⟩ := hv.appended (by decide) hrow hB'.size (Nat.le_refl _) hown' hgrow; have hc1 := hv1.cell; have hf1 := hv1.frozen)
    have hf : flatS nodC (pre ++ [(x1, x2)]) = flatS nodC pre ++ nodC (x1, x2) := by rw [flatS_append]; simp [flatS]
    have hlen : (pre ++ [(x1, x2)]).length = pre.length + 1 := by simp
    rw [← hf] at hr2
    exact ⟨hk2.from _, trivial, ⟨_, hv2, by rw [hlen]; exact hr2, trivial⟩, hB'.trans hb2⟩

theorem collectN_any (w : World) :
    Calls Tryd.prog 38 #[.func (.func 43) #[] #[]] w fun e w' =>
      ∃ v', e = .returned v' ∧ w'.ownsRow w.heap.size 23 2 v' 10 (flatS nodC allN) ∧ Below w.heap.size w w' := by
  go_enter Tryd.func38, Tryd.ntmps38
  go_wp2_with fail
  refine (callsIn_wide.1 (appendSeqN_in 3 (by omega) w)).mono ?_
  rintro e w1 ⟨v', rfl, O1, m1⟩
  have HO := Lib.hid O1
  have HM := Lib.hid m1
  clear O1 m1
  go_wp2
  go_ret
  exact ⟨v', rfl, HO.out, HM.out⟩

theorem eNodes_any (w : World) :
    Calls Tryd.prog 20 #[] w fun e w' => ∃ A c, e = .returned (.slice A 10 c) ∧ 10 ≤ c ∧ c ≤ maxLen ∧ SRow nodC 2 w'.heap.size w' A allN ∧ Below w.heap.size w w' := by
  go_enter Tryd.func20, Tryd.ntmps20
  go_wp2_with fail
  refine (callsIn_wide.1 (nodes_fn 1 w)).mono ?_
  rintro e w1 ⟨rfl, rfl⟩
  go_wp2_with fail
  refine (collectN_any w1).mono ?_
  rintro e w2 ⟨v', rfl, O2, m2⟩
  obtain ⟨g, c, rfl, hg, hc1, hc2⟩ := ownS_form O2 (by omega)
  have HO := Lib.hid (And.intro O2 (And.intro m2 (And.intro hc1 hc2)))
  clear O2 m2 hc1 hc2 hg
  go_wp2
  go_ret
  exact ⟨_, c, rfl, HO.out.2.2.1, HO.out.2.2.2, SRow.of_own nodC_len (by decide) HO.out.1, HO.out.2.1⟩
end Go.Proofs.YthenbpnlmpeafaaDoor
