/- The document's own answers on nodes: addr, Addr, Node. -/
import Derived.Test.YthenbpnlmpeafaaDoorEnA
import Derived.Deep.DeepCutAuto
import Derived.Deep.RegionHeldLaw
import Derived.Deep.DrawnRows
namespace Go.Proofs.YthenbpnlmpeafaaDoor
open Go.RowKit Go.Shelf
open SumM

theorem below_dr {B : Nat} {a w : World} (h : Below B a w) (n : Nat) : Below B a (w.drewN n) := ⟨h.os, h.tape, h.output, h.size, h.block⟩
set_option maxRecDepth 100000 in
theorem r7addr_any (nk ni : Int) (w : World) : Calls Tryd.prog 28 #[.agg #[.int .u8 nk, .int .i64 ni]] w fun e w' => e = .returned (.int .u32 (adr (nk, ni))) ∧ Below w.heap.size w w' := by
  have bN := heap_alloc_new w (.cells #[.int .u8 nk, .int .i64 ni] 23)
  have L0 := (Below.refl w.heap.size w).alloc (Nat.le_refl _) (.cells #[.int .u8 nk, .int .i64 ni] 23)
  obtain ⟨q0, q1⟩ := nod_cells _ _ bN
  go_enter Tryd.func28, Tryd.ntmps28
  go_wp2
  go_ret
  refine ⟨?_, L0⟩
  simp [adr]
  omega

/-- Whether two nodes are the same. -/
def eqD (u v : Nod) : Bool := decide (u.1 = v.1 ∧ u.2 = v.2)
theorem eqD_iff {u v : Nod} : eqD u v = true ↔ u = v := by
  obtain ⟨a, b⟩ := u
  obtain ⟨c, d⟩ := v
  simp [eqD]
set_option maxRecDepth 100000 in
theorem run_eqD (nk ni : Int) (nk' ni' : Int) (W : World) : (Go.binOp .eql 23 (.agg #[.int .u8 nk, .int .i64 ni]) (.agg #[.int .u8 nk', .int .i64 ni'])).run Tryd.prog W = .ok (.bool (eqD (nk, ni) (nk', ni'))) W := by
  have hcase : (nk = nk' ∧ ni = ni') ∨ (nk = nk' ∧ ni ≠ ni') ∨ nk ≠ nk' := by omega
  unfold eqD
  rcases hcase with ⟨rfl, rfl⟩ | ⟨rfl, e⟩ | e
  · rw [decide_eq_true ⟨rfl, rfl⟩]
    go_simp
  all_goals
    rw [decide_eq_false (by simp [e])]
    go_simp

theorem nrow_at {B : Nat} {w : World} {g : Nat} {us : List Nod} (h : SRow nodC 2 B w (some ⟨g, 0, none⟩) us) (j : Nat) (hj : j < us.length) :
    w.cell? ⟨g, j * 2, none⟩ = some (.int .u8 us[j].1) ∧ w.cell? ⟨g, j * 2 + 1, none⟩ = some (.int .i64 us[j].2) := by
  obtain ⟨b, off, e, _, hc⟩ := h (by omega)
  cases e
  have h0 := hc j hj 0 _ rfl
  have h1 := hc j hj 1 _ rfl
  simp only [Nat.zero_add, Nat.add_zero] at h0 h1
  exact ⟨h0, h1⟩

set_option maxRecDepth 100000 in
set_option maxHeartbeats 4000000 in
theorem r7Addr_any (nk ni : Int) (w : World) : Calls Tryd.prog 10 #[.agg #[.int .u8 nk, .int .i64 ni]] w fun e w' => e = .returned (.tuple #[.int .u32 (adrV (nk, ni)), .bool (isNod (nk, ni))]) ∧ Below w.heap.size w w' := by
  have bN := heap_alloc_new w (.cells #[.int .u8 nk, .int .i64 ni] 23)
  have L0 := (Below.refl w.heap.size w).alloc (Nat.le_refl _) (.cells #[.int .u8 nk, .int .i64 ni] 23)
  go_enter Tryd.func10, Tryd.ntmps10
  go_upto_region 1 with (fail)
  generalize w.alloc (.cells #[.int .u8 nk, .int .i64 ni] 23) = W0 at *
  go_wp2_with (go_at_call 21; refine (r7Nodes_any _).mono ?_; rintro e w1 ⟨g, c, rfl, hc1, hc2, ho, m1⟩)
  have bN1 := (m1.block _ (Array.getElem?_eq_some_iff.1 bN).1).trans bN
  have L1 := L0.trans (m1.mono L0.size)
  have HR := Lib.hid (SRow.of_own nodC_len (by decide) ho)
  have hcc : (10 : Int) ≤ (c : Int) := by omega
  obtain ⟨q0, q1⟩ := nod_cells _ _ bN1
  clear ho m1 bN L0 hc1 hc2
  go_wp2
  go_loopw [5] (fun i wr => ∃ k : Nat, k ≤ 10 ∧ i = .int .i64 k ∧ (∀ j (hj : j < k) (hj2 : j < allN.length), eqD allN[j] (nk, ni) = false) ∧ ∃ n, wr = w1.drewN n) (fun i _ => 10 - (intOf i).toNat)
  case atStart => exact ⟨0, by omega, rfl, fun j hj => absurd hj (by omega), 0, rfl⟩
  case round =>
    obtain ⟨k, hk, rfl, hno, n, rfl⟩ := hrel
    by_cases hlt : k < 10
    · have hka : k < allN.length := hlt
      obtain ⟨x0, x1⟩ := nrow_at HR.out k hka
      obtain ⟨u, hu⟩ : ∃ u, allN[k] = u := ⟨_, rfl⟩
      have hmem : u ∈ allN := hu ▸ List.getElem_mem hka
      rw [hu] at x0 x1
      obtain ⟨u1, u2⟩ := u
      have E1 := fun W => run_eqD u1 u2 nk ni W
      have HE := Lib.hid (And.intro hno (And.intro hu hmem))
      have hk12 : (k : Int) < 10 := by omega
      clear hno hu hmem
      cases he : eqD (u1, u2) (nk, ni)
      · rw [he] at E1
        have HF := Lib.hid he
        clear he
        go_wp2
        go_quiet (fail)
        go_wp2
        go_roundw
        case rel =>
          refine ⟨k + 1, by omega, by go_num, fun j hj hj2 => ?_, _, rfl⟩
          rcases Nat.lt_or_ge j k with h | h
          · exact HE.out.1 j h hj2
          · obtain rfl : j = k := by omega
            rw [HE.out.2.1]
            exact HF.out
        case measure => simp [intOf]; omega
      · rw [he] at E1
        have HF := Lib.hid he
        clear he
        go_wp2
        go_quiet (fail)
        go_wp2_with (go_at_call 28; refine (r7addr_any _ _ _).mono ?_; rintro e w2 ⟨rfl, m2⟩)
        go_ret2
        have hN : isNod (nk, ni) = true := isNod_mem.2 (eqD_iff.1 HF.out ▸ HE.out.2.2)
        refine ⟨by unfold adrV; rw [if_pos hN, hN]; rfl, (below_dr L1 (n + nq)).trans (m2.mono (below_dr L1 (n + nq)).size)⟩
    · obtain rfl : k = 10 := by omega
      clear hlt
      have HNO := Lib.hid hno
      clear hno
      go_wp2
      go_ret2
      have hN : isNod (nk, ni) = false := by
        rw [Bool.eq_false_iff]
        intro hc
        obtain ⟨j, hj, he⟩ := List.mem_iff_getElem.1 (isNod_mem.1 hc)
        have h1 := HNO.out j hj hj
        rw [he, eqD_iff.2 rfl] at h1
        cases h1
      exact ⟨by unfold adrV; rw [if_neg (by rw [hN]; decide), hN]; rfl, below_dr L1 n⟩

theorem Tryd.infoNodS : (Tryd.prog.info? 23).map (·.size) = some 2 := by kernel_rfl
theorem results_nod {fn : Func} {p u : Tmp} (h : fn.results = #[.cell p 23, .tmp u]) (tmps : Array Value) (w : World) (g : Nat) (cs : Array Value) (fr : Nat × Nat)
    (hp : tmps.getD p undef = .pointer (some ⟨g, 0, none⟩)) (hg : w.heap[g]? = some (.cells cs 23 fr)) (h9 : cs.size = 2) :
    (results fn tmps).run Tryd.prog w = .ok (.tuple #[.agg cs, tmps.getD u undef]) w := by
  rw [results_cell_tmp h, hp]
  simp only [asAddr, Sem.run_pure, Result.andThen_ok]
  rw [run_loadVar_row w g 23 23 cs fr _ hg Tryd.underlying23 rfl (by rw [h9]; exact Tryd.infoNodS)]
  rfl

set_option maxRecDepth 100000 in
set_option maxHeartbeats 4000000 in
theorem r7Node_any (ad : Int) (w : World) : Calls Tryd.prog 12 #[.int .u32 ad] w fun e w' => e = .returned (.tuple #[.agg #[.int .u8 (nodV ad).1, .int .i64 (nodV ad).2], .bool (nodB ad)]) ∧ Below w.heap.size w w' := by
  have bR := heap_alloc_new w (.cells #[.int .u8 0, .int .i64 0] 23)
  have L0 := (Below.refl w.heap.size w).alloc (Nat.le_refl _) (.cells #[.int .u8 0, .int .i64 0] 23)
  go_enter Tryd.func12, Tryd.ntmps12
  go_upto_region 1 with (fail)
  generalize w.alloc (.cells #[.int .u8 0, .int .i64 0] 23) = W0 at *
  go_wp2_with (go_at_call 21; refine (r7Nodes_any _).mono ?_; rintro e w1 ⟨g, c, rfl, hc1, hc2, ho, m1⟩)
  have bR1 := (m1.block _ (Array.getElem?_eq_some_iff.1 bR).1).trans bR
  have L1 := L0.trans (m1.mono L0.size)
  have HR := Lib.hid (SRow.of_own nodC_len (by decide) ho)
  have hcc : (10 : Int) ≤ (c : Int) := by omega
  have HLT := Lib.hid (Array.getElem?_eq_some_iff.1 bR1).1
  have HB1 := Lib.hid bR1
  have HL1 := Lib.hid L1
  clear ho m1 bR L0 hc1 hc2 bR1 L1
  go_loopw [5] (fun i wr => ∃ k : Nat, k ≤ 10 ∧ i = .int .i64 k ∧ (∀ j (hj : j < k) (hj2 : j < allN.length), adr allN[j] ≠ ad) ∧ Below w1.heap.size w1 wr) (fun i _ => 10 - (intOf i).toNat)
  case atStart => exact ⟨0, by omega, rfl, fun j hj => absurd hj (by omega), Below.refl _ _⟩
  case round =>
    obtain ⟨k, hk, rfl, hno, hB⟩ := hrel
    by_cases hlt : k < 10
    · have hka : k < allN.length := hlt
      obtain ⟨x0, x1⟩ := nrow_at (HR.out.below hB) k hka
      obtain ⟨u, hu⟩ : ∃ u, allN[k] = u := ⟨_, rfl⟩
      have hmem : u ∈ allN := hu ▸ List.getElem_mem hka
      rw [hu] at x0 x1
      obtain ⟨u1, u2⟩ := u
      have HE := Lib.hid (And.intro hno (And.intro hu hmem))
      have HBB := Lib.hid hB
      have hk12 : (k : Int) < 10 := by omega
      clear hno hu hmem hB
      go_wp2_with (fail)
      refine (r7addr_any _ _ _).mono ?_
      rintro e w2 ⟨rfl, m2⟩
      by_cases he : adr (u1, u2) = ad
      · have p1 : (adr (u1, u2) == ad) = true := by simpa using he
        have HF := Lib.hid he
        have B2 := HBB.out.trans (m2.mono HBB.out.size)
        obtain ⟨x0', x1'⟩ := nrow_at (HR.out.below B2) k hka
        rw [HE.out.2.1] at x0' x1'
        have hd := (B2.block _ HLT.out).trans HB1.out
        obtain ⟨z0, z1⟩ := nod_cells _ _ hd
        have f0 := nod_frozen hd 0
        have f1 := nod_frozen hd 1
        have HD := Lib.hid hd
        have H2 := Lib.hid B2
        clear he x0 x1 m2 hd B2
        go_wp2
        refine bodyPost_ret (results_nod rfl _ _ w.heap.size _ (0, 0) rfl (full_setCells HD.out [.int .u8 u1, .int .i64 u2] rfl) rfl) rfl ?_
        have hn : nodAt ad = some (u1, u2) := by rw [← HF.out]; exact nodAt_adr _ HE.out.2.2
        refine ⟨?_, below_setCells w.heap.size (Nat.le_refl _) [.int .u8 u1, .int .i64 u2] 0 w _ (HL1.out.trans (H2.out.mono (Nat.le_of_lt HLT.out)))⟩
        unfold nodV nodB
        rw [hn]
        rfl
      · have p1 : (adr (u1, u2) == ad) = false := by simpa using he
        have HF := Lib.hid he
        have H2 := Lib.hid (HBB.out.trans (m2.mono HBB.out.size))
        clear he x0 x1 m2
        go_wp2
        go_roundw
        case rel =>
          refine ⟨k + 1, by omega, by go_num, fun j hj hj2 => ?_, H2.out⟩
          rcases Nat.lt_or_ge j k with h | h
          · exact HE.out.1 j h hj2
          · obtain rfl : j = k := by omega
            rw [HE.out.2.1]
            exact HF.out
        case measure => simp [intOf]; omega
    · obtain rfl : k = 10 := by omega
      have HNO := Lib.hid hno
      have H2 := Lib.hid hB
      have hd := (hB.block _ HLT.out).trans HB1.out
      obtain ⟨z0, z1⟩ := nod_cells _ _ hd
      have f0 := nod_frozen hd 0
      have f1 := nod_frozen hd 1
      have HD := Lib.hid hd
      clear hno hlt hB hd
      go_wp2
      refine bodyPost_ret (results_nod rfl _ _ w.heap.size _ (0, 0) rfl (full_setCells HD.out [.int .u8 0, .int .i64 0] rfl) rfl) rfl ?_
      have hn : nodAt ad = none := by
        refine List.find?_eq_none.2 fun u hu hc => ?_
        obtain ⟨j, hj, he⟩ := List.mem_iff_getElem.1 hu
        exact HNO.out j hj hj (by rw [he]; simpa using hc)
      refine ⟨?_, below_setCells w.heap.size (Nat.le_refl _) [.int .u8 0, .int .i64 0] 0 w _ (HL1.out.trans (H2.out.mono (Nat.le_of_lt HLT.out)))⟩
      unfold nodV nodB
      rw [hn]
      rfl
end Go.Proofs.YthenbpnlmpeafaaDoor
