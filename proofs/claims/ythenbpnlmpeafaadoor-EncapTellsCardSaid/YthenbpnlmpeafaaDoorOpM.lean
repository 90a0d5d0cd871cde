/- Package option: within: the option of numbers, if each is within its limits. -/
import Derived.Test.YthenbpnlmpeafaaDoorOpI
import Derived.Test.YthenbpnlmpeafaaDoorOpEq
namespace Go.Proofs.YthenbpnlmpeafaaDoor
open Go.RowKit Go.Shelf
open SumM

attribute [local go_sem] Oper.semAt_some

/-- The six numbers, by their places. -/
def nums (k b c p g t : Int) (i : Nat) : Int := match i with | 0 => k | 1 => b | 2 => c | 3 => p | 4 => g | _ => t
theorem nums_ok {k b c p g t : Int} : ofOk k b c p g t = true ↔ ∀ i : Nat, i < 6 → nlo i ≤ nums k b c p g t i ∧ nums k b c p g t i ≤ nhi i := by
  have h : ofOk k b c p g t = true ↔ (0 ≤ b ∧ b < 16) ∧ optOk k b c p g t = true := by
    unfold ofOk
    simp only [Bool.and_eq_true, decide_eq_true_eq]
  rw [h, optOk_iff]
  constructor
  · rintro ⟨h1, h2⟩ i hi
    match i, hi with
    | 0, _ => simp only [nlo, nhi, nums]; omega
    | 1, _ => simp only [nlo, nhi, nums]; omega
    | 2, _ => simp only [nlo, nhi, nums]; omega
    | 3, _ => simp only [nlo, nhi, nums]; omega
    | 4, _ => simp only [nlo, nhi, nums]; omega
    | 5, _ => simp only [nlo, nhi, nums]; omega
  · intro h
    have h0 := h 0 (by omega)
    have h1 := h 1 (by omega)
    have h2 := h 2 (by omega)
    have h3 := h 3 (by omega)
    have h4 := h 4 (by omega)
    have h5 := h 5 (by omega)
    simp only [nlo, nhi, nums] at h0 h1 h2 h3 h4 h5
    omega
/-- What lies in memory while the numbers come. -/
structure WiBase (nv : Nat → Int) (w W : World) : Prop where
  lo : Below w.heap.size w W
  sz : w.heap.size + 3 ≤ W.heap.size
  nu : W.heap[w.heap.size]? = some (.cells #[.int .i64 (nv 0), .int .i64 (nv 1), .int .i64 (nv 2), .int .i64 (nv 3), .int .i64 (nv 4), .int .i64 (nv 5)] 98 (0, 0))
  ro : W.heap[w.heap.size + 1]? = some (.cells #[.int .u8 0, .int .u8 0, .int .i64 0, .int .i64 0, .int .i64 0, .int .i64 0] 26 (0, 0))
theorem WiBase.new {nv : Nat → Int} {w W : World} (h : WiBase nv w W) (o : Obj) : WiBase nv w (W.alloc o) :=
  ⟨h.lo.alloc h.lo.size o, by rw [World.size_alloc]; have := h.sz; omega, blkN h.nu o, blkN h.ro o⟩
theorem blkT {W : World} {k l : Nat} {cs : Array Value} {t : TypeId} {fr : Nat × Nat} {o : Obj} (h : W.heap[k]? = some (.cells cs t fr)) (hl : W.heap[l]? = some o) (hc : o.isCells = false) (o' : Obj) : (W.putObj l o').heap[k]? = some (.cells cs t fr) := by
  refine (World.putObj_heap_other ?_).trans h
  intro e
  subst e
  rw [h] at hl
  cases hl
  cases hc
theorem WiBase.turn {nv : Nat → Int} {w W : World} (h : WiBase nv w W) {l : Nat} {o : Obj} (o' : Obj) (hB : w.heap.size + 3 ≤ l) (hl : W.heap[l]? = some o) (hc : o.isCells = false) : WiBase nv w (W.putObj l o') :=
  ⟨h.lo.trans ⟨rfl, rfl, rfl, by simp [World.putObj], fun k hk => World.putObj_heap_other (by omega)⟩, by have := h.sz; simpa [World.putObj] using this, blkT h.nu hl hc o', blkT h.ro hl hc o'⟩
theorem WiBase.drewN {nv : Nat → Int} {w W : World} (h : WiBase nv w W) (m : Nat) : WiBase nv w (W.drewN m) :=
  ⟨⟨h.lo.os, h.lo.tape, h.lo.output, h.lo.size, h.lo.block⟩, h.sz, h.nu, h.ro⟩
def WiInv (nv : Nat → Int) (w : World) (pre : List Nat) (W : World) : Prop := WiBase nv w W ∧ ∀ j, j < pre.length → nlo j ≤ nv j ∧ nv j ≤ nhi j

theorem nu_cell {W : World} {b : Nat} {nv : Nat → Int} {t : TypeId} (h : W.heap[b]? = some (.cells #[.int .i64 (nv 0), .int .i64 (nv 1), .int .i64 (nv 2), .int .i64 (nv 3), .int .i64 (nv 4), .int .i64 (nv 5)] t (0, 0))) : ∀ x : Nat, x < 6 → W.cell? ⟨b, x, none⟩ = some (.int .i64 (nv x))
  | 0, _ => by rw [cell_of_row _ _ _ _ _ _ h]; rfl
  | 1, _ => by rw [cell_of_row _ _ _ _ _ _ h]; rfl
  | 2, _ => by rw [cell_of_row _ _ _ _ _ _ h]; rfl
  | 3, _ => by rw [cell_of_row _ _ _ _ _ _ h]; rfl
  | 4, _ => by rw [cell_of_row _ _ _ _ _ _ h]; rfl
  | 5, _ => by rw [cell_of_row _ _ _ _ _ _ h]; rfl
theorem wiInv_abide (nv : Nat → Int) (w : World) (B : Nat) (hB : w.heap.size + 3 ≤ B) : Abide3 B (WiInv nv w) where
  new := fun _ _ o h => ⟨h.1.new o, h.2⟩
  turn := fun _ _ _ _ o' h hl ho hc => ⟨h.1.turn o' (by omega) ho hc, h.2⟩
def WiOut (nv : Nat → Int) (w : World) (c : Code) (_ : List Nat) (W : World) : Prop := c = .goto 0 ∧ WiBase nv w W ∧ ∃ j, j < 6 ∧ ¬ (nlo j ≤ nv j ∧ nv j ≤ nhi j)
theorem wiOut_abide (nv : Nat → Int) (w : World) (B : Nat) (hB : w.heap.size + 3 ≤ B) (c : Code) : Abide3 B (WiOut nv w c) where
  new := fun _ _ o h => ⟨h.1, h.2.1.new o, h.2.2⟩
  turn := fun _ _ _ _ o' h hl ho hc => ⟨h.1, h.2.1.turn o' (by omega) ho hc, h.2.2⟩
/-- The option of numbers within their limits. -/
def nvOpt (nv : Nat → Int) : Array Value := #[.int .u8 (nv 0), .int .u8 (nv 1), .int .i64 (nv 2), .int .i64 (nv 3), .int .i64 (nv 4), .int .i64 (nv 5)]

set_option maxRecDepth 100000 in
set_option maxHeartbeats 8000000 in
theorem within_nv (n : Nat) (hn : 4 ≤ n) (nv : Nat → Int) (w : World) :
    CallsIn Fence.wide n Tryd.prog 72 #[.agg #[.int .i64 (nv 0), .int .i64 (nv 1), .int .i64 (nv 2), .int .i64 (nv 3), .int .i64 (nv 4), .int .i64 (nv 5)]] w fun e w' => ((∀ j, j < 6 → nlo j ≤ nv j ∧ nv j ≤ nhi j) ∧ e = .returned (.agg (nvOpt nv)) ∧ Below w.heap.size w w') ∨ ((¬ ∀ j, j < 6 → nlo j ≤ nv j ∧ nv j ≤ nhi j) ∧ e = .returned (.agg #[.int .u8 0, .int .u8 0, .int .i64 0, .int .i64 0, .int .i64 0, .int .i64 0]) ∧ Below w.heap.size w w') := by
  have h1n : 1 ≤ n := by omega
  refine callsIn_of_wp_marks Tryd.func72 rfl trivial ?_ rfl
  simp only [Tryd.ntmps72, List.size_toArray, List.length_cons, List.length_nil, Nat.reduceAdd, Nat.reduceSub, Array.replicate_succ, Array.replicate_zero, List.push_toArray, List.append_toArray, List.nil_append, List.cons_append]
  have B0 : WiBase nv w (((w.alloc (.cells #[.int .i64 (nv 0), .int .i64 (nv 1), .int .i64 (nv 2), .int .i64 (nv 3), .int .i64 (nv 4), .int .i64 (nv 5)] 98)).alloc (.cells #[.int .u8 0, .int .u8 0, .int .i64 0, .int .i64 0, .int .i64 0, .int .i64 0] 26)).alloc (.cells #[.pointer (some ⟨w.heap.size, 0, none⟩)] 111)) :=
    ⟨(((Below.refl _ w).alloc (Nat.le_refl _) _).alloc (by simp) _).alloc (by simp; omega) _, by simp, blkN (blkN (newN w _ _ rfl) _) _, blkN (newN _ _ _ (by simp)) _⟩
  have hx0 : (((w.alloc (.cells #[.int .i64 (nv 0), .int .i64 (nv 1), .int .i64 (nv 2), .int .i64 (nv 3), .int .i64 (nv 4), .int .i64 (nv 5)] 98)).alloc (.cells #[.int .u8 0, .int .u8 0, .int .i64 0, .int .i64 0, .int .i64 0, .int .i64 0] 26)).alloc (.cells #[.pointer (some ⟨w.heap.size, 0, none⟩)] 111)).heap[w.heap.size + 2]? = some (.cells #[.pointer (some ⟨w.heap.size, 0, none⟩)] 111 (0, 0)) := newN _ _ _ (by simp)
  have hs0 : ((w.alloc (.cells #[.int .i64 (nv 0), .int .i64 (nv 1), .int .i64 (nv 2), .int .i64 (nv 3), .int .i64 (nv 4), .int .i64 (nv 5)] 98)).alloc (.cells #[.int .u8 0, .int .u8 0, .int .i64 0, .int .i64 0, .int .i64 0, .int .i64 0] 26)).heap.size = w.heap.size + 2 := by simp
  gi_wp2
  rw [wpIn_wide]
  refine wp_scope_jumps 0 (fun a' w' => ∃ D, a' = { tmps := #[.agg #[.int .i64 (nv 0), .int .i64 (nv 1), .int .i64 (nv 2), .int .i64 (nv 3), .int .i64 (nv 4), .int .i64 (nv 5)], .pointer (some ⟨w.heap.size, 0, none⟩), .pointer (some ⟨w.heap.size + 1, 0, none⟩), undef, undef, .func (.func 74) #[] #[.pointer (some ⟨w.heap.size + 2, 0, none⟩)], undef, undef, undef, undef, undef, undef, undef, undef, undef, undef, undef, undef, undef, undef, undef, undef, undef, undef, undef, undef, undef, undef, undef, undef, undef, undef, undef, undef, undef, undef, undef, undef, undef, undef, undef, undef], defers := [{ target := .collected D, args := #[] }] } ∧ WiBase nv w w' ∧ (∃ j, j < 6 ∧ ¬ (nlo j ≤ nv j ∧ nv j ≤ nhi j)) ∧ w'.heap[D]? = some (.deferred (some [])) ∧ w.heap.size + 3 ≤ D) (fun _ _ => 0) rfl ?first ?pass
  case pass =>
    rintro a' w' ⟨D, rfl, hb, hj, hK, hD⟩
    have HB := Lib.hid hb
    have HJ := Lib.hid hj
    have HK := Lib.hid hK
    have HD := Lib.hid hD
    obtain ⟨q0, q1, q2, q3, q4, q5⟩ := o_cells _ _ _ _ _ _ hb.ro
    have f0 := o_frozen hb.ro 0
    have f1 := o_frozen hb.ro 1
    have f2 := o_frozen hb.ro 2
    have f3 := o_frozen hb.ro 3
    have f4 := o_frozen hb.ro 4
    have f5 := o_frozen hb.ro 5
    clear hb hj hK hD B0 hs0 hx0
    go_wp2
    simp only [Exit.jump]
    have D2 : ((((((w'.setCell ⟨w.heap.size + 1, 0, none⟩ (.int .u8 0)).setCell ⟨w.heap.size + 1, 1, none⟩ (.int .u8 0)).setCell ⟨w.heap.size + 1, 2, none⟩ (.int .i64 0)).setCell ⟨w.heap.size + 1, 3, none⟩ (.int .i64 0)).setCell ⟨w.heap.size + 1, 4, none⟩ (.int .i64 0)).setCell ⟨w.heap.size + 1, 5, none⟩ (.int .i64 0)).heap[w.heap.size + 1]? = some (.cells [.int .u8 0, .int .u8 0, .int .i64 0, .int .i64 0, .int .i64 0, .int .i64 0].toArray 26 (0, 0)) := full_setCells HB.out.ro [.int .u8 0, .int .u8 0, .int .i64 0, .int .i64 0, .int .i64 0, .int .i64 0] rfl
    have K2 : ((((((w'.setCell ⟨w.heap.size + 1, 0, none⟩ (.int .u8 0)).setCell ⟨w.heap.size + 1, 1, none⟩ (.int .u8 0)).setCell ⟨w.heap.size + 1, 2, none⟩ (.int .i64 0)).setCell ⟨w.heap.size + 1, 3, none⟩ (.int .i64 0)).setCell ⟨w.heap.size + 1, 4, none⟩ (.int .i64 0)).setCell ⟨w.heap.size + 1, 5, none⟩ (.int .i64 0)).heap[D]? = some (.deferred (some [])) := (others_setCells (w.heap.size + 1) [.int .u8 0, .int .u8 0, .int .i64 0, .int .i64 0, .int .i64 0, .int .i64 0] 0 w').same D _ HK.out rfl
    have B2 : Below w.heap.size w ((((((w'.setCell ⟨w.heap.size + 1, 0, none⟩ (.int .u8 0)).setCell ⟨w.heap.size + 1, 1, none⟩ (.int .u8 0)).setCell ⟨w.heap.size + 1, 2, none⟩ (.int .i64 0)).setCell ⟨w.heap.size + 1, 3, none⟩ (.int .i64 0)).setCell ⟨w.heap.size + 1, 4, none⟩ (.int .i64 0)).setCell ⟨w.heap.size + 1, 5, none⟩ (.int .i64 0)) := below_setCells (w.heap.size + 1) (by omega) [.int .u8 0, .int .u8 0, .int .i64 0, .int .i64 0, .int .i64 0, .int .i64 0] 0 w _ HB.out.lo
    clear q0 q1 q2 q3 q4 q5 f0 f1 f2 f3 f4 f5
    generalize ((((((w'.setCell ⟨w.heap.size + 1, 0, none⟩ (.int .u8 0)).setCell ⟨w.heap.size + 1, 1, none⟩ (.int .u8 0)).setCell ⟨w.heap.size + 1, 2, none⟩ (.int .i64 0)).setCell ⟨w.heap.size + 1, 3, none⟩ (.int .i64 0)).setCell ⟨w.heap.size + 1, 4, none⟩ (.int .i64 0)).setCell ⟨w.heap.size + 1, 5, none⟩ (.int .i64 0)) = W2 at *
    refine ⟨by simp, .inl ⟨_, _, rfl, run_takeDeferred K2, ?_⟩⟩
    refine ⟨_, results_cell_row rfl _ _ (w.heap.size + 1) 26 _ (0, 0) _ rfl ((World.putObj_heap_other (by have := HD.out; omega)).trans D2) Tryd.underlying26 rfl Tryd.infoOpt, ?_⟩
    refine .inr ⟨fun h => ?_, rfl, B2.trans (belowK_b (w := w) (Nat.le_refl _) _ D _ _ (by have := HD.out; omega) K2 rfl rfl)⟩
    obtain ⟨j, h1, h2⟩ := HJ.out
    exact h2 (h j h1)
  case first =>
    rw [← wpIn_wide (n := n)]
    gi_wp2_with fail
    generalize hW0 : (w.alloc (.cells #[.int .i64 (nv 0), .int .i64 (nv 1), .int .i64 (nv 2), .int .i64 (nv 3), .int .i64 (nv 4), .int .i64 (nv 5)] 98)).alloc (.cells #[.int .u8 0, .int .u8 0, .int .i64 0, .int .i64 0, .int .i64 0, .int .i64 0] 26) = W0 at *
    refine ⟨trivial, (withLimits_in (n - 1) w.heap.size W0).mono ?_⟩
    rintro e w1 ⟨rfl, rfl⟩
    rw [hs0]
    have hs4 : (W0.alloc (.cells #[.pointer (some ⟨w.heap.size, 0, none⟩)] 111)).heap.size = w.heap.size + 3 := by simp; omega
    have HB0 := Lib.hid B0
    have HX0 := Lib.hid hx0
    clear B0 hx0 hW0
    gi_wp2
    generalize W0.alloc (.cells #[.pointer (some ⟨w.heap.size, 0, none⟩)] 111) = V at *
    refine range_okD rfl h1n (gf := 74) (lb := #[.pointer (some ⟨w.heap.size + 2, 0, none⟩)]) rfl trivial (enters_of Tryd.func74 (by kernel_rfl) rfl)
      (lims_ok (n - 1) (by omega) (w.heap.size + 2) w.heap.size (w.heap.size + 3) V (by omega) HX0.out) (fun _ _ _ _ _ _ h _ _ _ => h) (fun h k => h.trans k) (fun W l o o' _ hl hc _ => KeepL.putObj _ _ W o' hl hc) (fun _ => rfl)
      (WiInv nv w) (WiOut nv w) (wiInv_abide nv w V.heap.size (by omega)) (wiOut_abide nv w V.heap.size (by omega)) (fun _ W h => ⟨h.1.drewN 1, h.2⟩) ⟨HB0.out, fun j h => absurd h (by simp)⟩
      (fun x => .cells (limOf x) 105) (fun W x => KeepL.alloc _ _ W _) (fun _ _ _ h => h)
      (fun x b => { tmps := #[.agg #[.int .i64 (nv 0), .int .i64 (nv 1), .int .i64 (nv 2), .int .i64 (nv 3), .int .i64 (nv 4), .int .i64 (nv 5)], .pointer (some ⟨w.heap.size, 0, none⟩), .pointer (some ⟨w.heap.size + 1, 0, none⟩), .pointer (some ⟨w.heap.size, x, none⟩), .pointer (some ⟨b, 0, none⟩), .func (.func 74) #[] #[.pointer (some ⟨w.heap.size + 2, 0, none⟩)], .pointer (some ⟨w.heap.size, x, none⟩), .agg (limOf x), undef, undef, undef, undef, undef, undef, undef, undef, undef, undef, undef, undef, undef, undef, undef, undef, undef, undef, undef, undef, undef, undef, undef, undef, undef, undef, undef, undef, undef, undef, undef, undef, undef, undef], defers := [] }) ?assign ?body ?done ?stop
    case assign =>
      intro l x W K hK
      simp only [onumAt, limOf] at hK ⊢
      gi_wp2
      exact hK
    case stop =>
      rintro D c pre W hD _ ⟨rfl, h2, h3⟩ hK
      refine wpIn_goto ?_
      simp only [Exit.inBlock, Exit.then]
      exact ⟨rfl, D, rfl, h2, h3, hK, by omega⟩
    case done =>
      rintro D ys W hD rfl ⟨hb, hj⟩ hK
      have HB := Lib.hid hb
      have HJ := Lib.hid hj
      have HK := Lib.hid hK
      have HD := Lib.hid (show w.heap.size + 3 ≤ D by omega)
      have hnu : ∀ x : Nat, x < 6 → W.cell? ⟨w.heap.size, x, none⟩ = some (.int .i64 (nv x)) := nu_cell hb.nu
      have n0 := hnu 0 (by omega)
      have n1 := hnu 1 (by omega)
      have n2 := hnu 2 (by omega)
      have n3 := hnu 3 (by omega)
      have n4 := hnu 4 (by omega)
      have n5 := hnu 5 (by omega)
      have l0 := hj 0 (by simp)
      have l1 := hj 1 (by simp)
      simp only [nlo, nhi] at l0 l1
      have u0 : IntKind.u8.wrap (nv 0) = nv 0 := IntWalk.u8_in _ (by omega)
      have u1 : IntKind.u8.wrap (nv 1) = nv 1 := IntWalk.u8_in _ (by omega)
      obtain ⟨q0, q1, q2, q3, q4, q5⟩ := o_cells _ _ _ _ _ _ hb.ro
      have f0 := o_frozen hb.ro 0
      have f1 := o_frozen hb.ro 1
      have f2 := o_frozen hb.ro 2
      have f3 := o_frozen hb.ro 3
      have f4 := o_frozen hb.ro 4
      have f5 := o_frozen hb.ro 5
      clear hb hj hK hD hnu l0 l1
      simp only [Exit.inBlock, Exit.then]
      apply_assumption
      rw [wpIn_wide]
      go_wp2
      simp only [Exit.jump]
      have D2 : ((((((W.setCell ⟨w.heap.size + 1, 0, none⟩ (.int .u8 (nv 0))).setCell ⟨w.heap.size + 1, 1, none⟩ (.int .u8 (nv 1))).setCell ⟨w.heap.size + 1, 2, none⟩ (.int .i64 (nv 2))).setCell ⟨w.heap.size + 1, 3, none⟩ (.int .i64 (nv 3))).setCell ⟨w.heap.size + 1, 4, none⟩ (.int .i64 (nv 4))).setCell ⟨w.heap.size + 1, 5, none⟩ (.int .i64 (nv 5))).heap[w.heap.size + 1]? = some (.cells [.int .u8 (nv 0), .int .u8 (nv 1), .int .i64 (nv 2), .int .i64 (nv 3), .int .i64 (nv 4), .int .i64 (nv 5)].toArray 26 (0, 0)) := full_setCells HB.out.ro [.int .u8 (nv 0), .int .u8 (nv 1), .int .i64 (nv 2), .int .i64 (nv 3), .int .i64 (nv 4), .int .i64 (nv 5)] rfl
      have K2 : ((((((W.setCell ⟨w.heap.size + 1, 0, none⟩ (.int .u8 (nv 0))).setCell ⟨w.heap.size + 1, 1, none⟩ (.int .u8 (nv 1))).setCell ⟨w.heap.size + 1, 2, none⟩ (.int .i64 (nv 2))).setCell ⟨w.heap.size + 1, 3, none⟩ (.int .i64 (nv 3))).setCell ⟨w.heap.size + 1, 4, none⟩ (.int .i64 (nv 4))).setCell ⟨w.heap.size + 1, 5, none⟩ (.int .i64 (nv 5))).heap[D]? = some (.deferred (some [])) := (others_setCells (w.heap.size + 1) [.int .u8 (nv 0), .int .u8 (nv 1), .int .i64 (nv 2), .int .i64 (nv 3), .int .i64 (nv 4), .int .i64 (nv 5)] 0 W).same D _ HK.out rfl
      have B2 : Below w.heap.size w ((((((W.setCell ⟨w.heap.size + 1, 0, none⟩ (.int .u8 (nv 0))).setCell ⟨w.heap.size + 1, 1, none⟩ (.int .u8 (nv 1))).setCell ⟨w.heap.size + 1, 2, none⟩ (.int .i64 (nv 2))).setCell ⟨w.heap.size + 1, 3, none⟩ (.int .i64 (nv 3))).setCell ⟨w.heap.size + 1, 4, none⟩ (.int .i64 (nv 4))).setCell ⟨w.heap.size + 1, 5, none⟩ (.int .i64 (nv 5))) := below_setCells (w.heap.size + 1) (by omega) [.int .u8 (nv 0), .int .u8 (nv 1), .int .i64 (nv 2), .int .i64 (nv 3), .int .i64 (nv 4), .int .i64 (nv 5)] 0 w _ HB.out.lo
      clear q0 q1 q2 q3 q4 q5 f0 f1 f2 f3 f4 f5 n0 n1 n2 n3 n4 n5
      generalize ((((((W.setCell ⟨w.heap.size + 1, 0, none⟩ (.int .u8 (nv 0))).setCell ⟨w.heap.size + 1, 1, none⟩ (.int .u8 (nv 1))).setCell ⟨w.heap.size + 1, 2, none⟩ (.int .i64 (nv 2))).setCell ⟨w.heap.size + 1, 3, none⟩ (.int .i64 (nv 3))).setCell ⟨w.heap.size + 1, 4, none⟩ (.int .i64 (nv 4))).setCell ⟨w.heap.size + 1, 5, none⟩ (.int .i64 (nv 5))) = W2 at *
      refine ⟨by simp, .inl ⟨_, _, rfl, run_takeDeferred K2, ?_⟩⟩
      refine ⟨_, results_cell_row rfl _ _ (w.heap.size + 1) 26 _ (0, 0) _ rfl ((World.putObj_heap_other (by have := HD.out; omega)).trans D2) Tryd.underlying26 rfl Tryd.infoOpt, ?_⟩
      exact .inl ⟨fun j h => HJ.out j (by simpa using h), rfl, B2.trans (belowK_b (w := w) (Nat.le_refl _) _ D _ _ (by have := HD.out; omega) K2 rfl rfl)⟩
    case body =>
      rintro l pre x W b ⟨hb, hj⟩ ⟨hx, hx6⟩ hb1 hb2 hbx
      have HB := Lib.hid hb
      have HJ := Lib.hid hj
      have HX := Lib.hid (And.intro hx hx6)
      have cv := nu_cell hb.nu x hx6
      obtain ⟨ca, cb, cc⟩ := lim_cells hbx
      clear hb hj hb1 hb2 hbx HX0 HB0 hx hx6
      generalize hv : nv x = v at *
      generalize hl : nlo x = lx at *
      generalize hh : nhi x = hx at *
      have HV := Lib.hid (And.intro hv (And.intro hl hh))
      clear hv hl hh
      have hc : (decide (v < lx) = true) ∨ (decide (v < lx) = false ∧ decide (hx < v) = true) ∨ (decide (v < lx) = false ∧ decide (hx < v) = false) := by
        by_cases h1 : v < lx
        · exact .inl (decide_eq_true h1)
        · by_cases h2 : hx < v
          · exact .inr (.inl ⟨decide_eq_false h1, decide_eq_true h2⟩)
          · exact .inr (.inr ⟨decide_eq_false h1, decide_eq_false h2⟩)
      rcases hc with p1 | ⟨p1, p2⟩ | ⟨p1, p2⟩
      · gi_wp2_with fail
        refine region_quiet_inRound l rfl (by kernel_rfl) (by kernel_rfl) (by kernel_rfl) ?_
        repeat (gi_big_quiet_step (fail))
        refine wpQuietIn_nil ?_
        intro _ hw'
        obtain ⟨nq, hw''⟩ := hw'
        subst hw''
        have HP := Lib.hid (of_decide_eq_true p1)
        clear p1 ca cb cc cv
        gi_wp2
        refine wpIn_goto ?_
        refine ⟨⟨Nat.le_refl _, fun _ _ _ h _ => h⟩, rfl, HB.out.drewN nq, x, HX.out.2, ?_⟩
        rw [HV.out.1, HV.out.2.1, HV.out.2.2]
        have := HP.out
        omega
      · gi_wp2_with fail
        refine region_quiet_inRound l rfl (by kernel_rfl) (by kernel_rfl) (by kernel_rfl) ?_
        repeat (gi_big_quiet_step (fail))
        refine wpQuietIn_nil ?_
        intro _ hw'
        obtain ⟨nq, hw''⟩ := hw'
        subst hw''
        have HP := Lib.hid (of_decide_eq_true p2)
        clear p1 p2 ca cb cc cv
        gi_wp2
        refine wpIn_goto ?_
        refine ⟨⟨Nat.le_refl _, fun _ _ _ h _ => h⟩, rfl, HB.out.drewN nq, x, HX.out.2, ?_⟩
        rw [HV.out.1, HV.out.2.1, HV.out.2.2]
        have := HP.out
        omega
      · gi_wp2_with fail
        refine region_quiet_inRound l rfl (by kernel_rfl) (by kernel_rfl) (by kernel_rfl) ?_
        repeat (gi_big_quiet_step (fail))
        refine wpQuietIn_nil ?_
        intro _ hw'
        obtain ⟨nq, hw''⟩ := hw'
        subst hw''
        have HP := Lib.hid (And.intro (of_decide_eq_false p1) (of_decide_eq_false p2))
        clear p1 p2 ca cb cc cv
        gi_wp2
        refine ⟨⟨Nat.le_refl _, fun _ _ _ h _ => h⟩, KeepL.drewN _ _ W nq, HB.out.drewN nq, fun j hj => ?_⟩
        rw [List.length_append] at hj
        by_cases e : j = x
        · subst e
          rw [HV.out.1, HV.out.2.1, HV.out.2.2]
          have := HP.out
          omega
        · exact HJ.out j (by have := HX.out.1; simp at hj; omega)
end Go.Proofs.YthenbpnlmpeafaaDoor
