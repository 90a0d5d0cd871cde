/- Package encap: Addr, Node, Nodes. -/
import Derived.Test.YthenbpnlmpeafaaDoorEnJ
import Derived.Test.YthenbpnlmpeafaaDoorOpI
import Derived.Deep.DeepCutAuto
import Derived.Deep.RegionHeldLaw
import Derived.Deep.RegionLaw
import Derived.Deep.DrawnRows
namespace Go.Proofs.YthenbpnlmpeafaaDoor
open Go.RowKit Go.Shelf
open SumM

theorem addresses_any (w : World) : Calls Tryd.prog 27 #[] w fun e w' => e = .returned (.map (some w.heap.size)) ∧ w'.heap[w.heap.size]? = some (.map (mapN allN) 10) ∧ Below w.heap.size w w' :=
  callsIn_wide.1 (addresses_in 4 (by omega) w)

set_option maxRecDepth 100000 in
set_option maxHeartbeats 4000000 in
theorem eAddr_is (nk ni : Int) (w : World) :
    Calls Tryd.prog 9 #[.agg #[.int .u8 nk, .int .i64 ni]] w fun e w' => e = .returned (.tuple #[.int .u32 (adrV (nk, ni)), .bool (isNod (nk, ni))]) ∧ Below w.heap.size w w' := by
  have bN := heap_alloc_new w (.cells #[.int .u8 nk, .int .i64 ni] 23)
  have L0 := (Below.refl w.heap.size w).alloc (Nat.le_refl _) (.cells #[.int .u8 nk, .int .i64 ni] 23)
  obtain ⟨q0, q1⟩ := nod_cells _ _ bN
  go_enter Tryd.func9, Tryd.ntmps9
  go_wp2_with fail
  generalize w.alloc (.cells #[.int .u8 nk, .int .i64 ni] 23) = W0 at *
  go_region_held3 (fun W => W.cell? ⟨w.heap.size, 0, none⟩ = some (.int .u8 nk) ∧ W.cell? ⟨w.heap.size, 1, none⟩ = some (.int .i64 ni))
    (first | with_reducible exact QA | with_reducible exact ⟨q0, q1⟩ | exact ⟨q0, q1⟩)
    (first
      | (refine (addresses_any _).mono ?_
         rintro e w1 ⟨rfl, hm1, m1⟩
         have QA := nod_cells _ _ ((m1.block _ (Array.getElem?_eq_some_iff.1 bN).1).trans bN)
         have hlk := run_look (nk, ni) W0.heap.size w1 hm1 true
         unfold keyN at hlk
         simp only [if_true] at hlk))
  go_wp2
  go_ret2
  exact ⟨rfl, (below_dr L0 1).trans (m1.mono (below_dr L0 1).size)⟩

theorem load_bool (w : World) (g : Nat) (y : Bool) (h : w.cell? ⟨g, 0, none⟩ = some (.bool y)) : (loadVar 4 ⟨g, 0, none⟩).run Tryd.prog w = .ok (.bool y) w := by
  simp [loadVar, go_sem, h]
theorem results_nd2 {fn : Func} {p u : Tmp} (h : fn.results = #[.cell p 23, .cell u 4]) (tmps : Array Value) (w : World) (g g' : Nat) (cs : Array Value) (fr : Nat × Nat) (y : Bool)
    (hp : tmps.getD p undef = .pointer (some ⟨g, 0, none⟩)) (hg : w.heap[g]? = some (.cells cs 23 fr)) (h9 : cs.size = 2) (hu : tmps.getD u undef = .pointer (some ⟨g', 0, none⟩)) (hg' : w.cell? ⟨g', 0, none⟩ = some (.bool y)) :
    (results fn tmps).run Tryd.prog w = .ok (.tuple #[.agg cs, .bool y]) w := by
  have e1 := run_loadVar_row w g 23 23 cs fr _ hg Tryd.underlying23 rfl (by rw [h9]; exact Tryd.infoNodS)
  have e2 := load_bool w g' y hg'
  have hp' : tmps[p]?.getD undef = .pointer (some ⟨g, 0, none⟩) := by simpa using hp
  have hu' : tmps[u]?.getD undef = .pointer (some ⟨g', 0, none⟩) := by simpa using hu
  simp [results, h, hp', hu', asAddr, e1, e2, Sem.run_bind, Result.andThen]

/-- While the nodes come; where one was found. -/
def NoInv (ad : Int) (V : World) (pre : List Nod) (W : World) : Prop := Below V.heap.size V W ∧ ∀ v ∈ pre, adr v ≠ ad
def NoOut (ad : Int) (B : Nat) (w : World) (c : Code) (_ : List Nod) (W : World) : Prop := c = .ret ∧ ∃ u, u ∈ allN ∧ adr u = ad ∧ Below w.heap.size w W ∧ B ≤ W.heap.size ∧
  W.heap[w.heap.size + 1]? = some (.cells #[.int .u8 u.1, .int .i64 u.2] 23 (0, 0)) ∧ W.heap[w.heap.size + 2]? = some (.cells #[.bool true] 4 (0, 0))
theorem noInv_abide (ad : Int) (V : World) : Abide3 V.heap.size (NoInv ad V) where
  new := fun _ _ o h => ⟨h.1.alloc h.1.size o, h.2⟩
  turn := fun _ W l o o' h hl ho hc => ⟨h.1.trans ⟨rfl, rfl, rfl, by simp [World.putObj], fun k hk => World.putObj_heap_other (by omega)⟩, h.2⟩
theorem noOut_abide (ad : Int) (B : Nat) (w : World) (hB : w.heap.size + 3 ≤ B) (c : Code) : Abide3 B (NoOut ad B w c) where
  new := fun _ _ o h => by
    obtain ⟨h0, u, h1, h2, h3, h4, h5, h6⟩ := h
    exact ⟨h0, u, h1, h2, h3.alloc h3.size o, by rw [World.size_alloc]; omega, (Below.heap_alloc _ _ _ (Array.getElem?_eq_some_iff.1 h5).1).trans h5, (Below.heap_alloc _ _ _ (Array.getElem?_eq_some_iff.1 h6).1).trans h6⟩
  turn := fun _ W l o o' h hl ho hc => by
    obtain ⟨h0, u, h1, h2, h3, h4, h5, h6⟩ := h
    exact ⟨h0, u, h1, h2, h3.trans ⟨rfl, rfl, rfl, by simp [World.putObj], fun k hk => World.putObj_heap_other (by omega)⟩, by simpa [World.putObj] using h4, (World.putObj_heap_other (by omega)).trans h5, (World.putObj_heap_other (by omega)).trans h6⟩

attribute [local go_sem] Oper.semAt_some

theorem bool_frozen {w : World} {b : Nat} {cs : Array Value} {t : TypeId} (h : w.heap[b]? = some (.cells cs t (0, 0))) (i : Nat) : w.frozen? ⟨b, i, none⟩ = false := by simp [World.frozen?, h]
/-- A node and a bool, stored one behind the other. -/
theorem stored_nd {w V : World} {ba : Nat} (nk ni : Int) (y : Bool) {cs ds : Array Value} (hw : w.heap.size ≤ ba) (h3 : Below w.heap.size w V) (h1 : V.heap[ba]? = some (.cells cs 23 (0, 0))) (h2 : V.heap[ba + 1]? = some (.cells ds 4 (0, 0))) (hc : cs.size = 2) (hd : ds.size = 1) :
    Below w.heap.size w (((V.setCell ⟨ba, 0, none⟩ (.int .u8 nk)).setCell ⟨ba, 1, none⟩ (.int .i64 ni)).setCell ⟨ba + 1, 0, none⟩ (.bool y)) ∧
    (((V.setCell ⟨ba, 0, none⟩ (.int .u8 nk)).setCell ⟨ba, 1, none⟩ (.int .i64 ni)).setCell ⟨ba + 1, 0, none⟩ (.bool y)).heap[ba]? = some (.cells #[.int .u8 nk, .int .i64 ni] 23 (0, 0)) ∧
    (((V.setCell ⟨ba, 0, none⟩ (.int .u8 nk)).setCell ⟨ba, 1, none⟩ (.int .i64 ni)).setCell ⟨ba + 1, 0, none⟩ (.bool y)).heap[ba + 1]? = some (.cells #[.bool y] 4 (0, 0)) ∧
    KeepsOthers V (((V.setCell ⟨ba, 0, none⟩ (.int .u8 nk)).setCell ⟨ba, 1, none⟩ (.int .i64 ni)).setCell ⟨ba + 1, 0, none⟩ (.bool y)) := by
  have e1 := full_setCells h1 [.int .u8 nk, .int .i64 ni] (by simp [hc])
  have b1 := below_setCells ba hw [.int .u8 nk, .int .i64 ni] 0 w _ h3
  have n1 := (Below.heap_setCell (V.setCell ⟨ba, 0, none⟩ (.int .u8 nk)) ⟨ba, 1, none⟩ (.int .i64 ni) (ba + 1) (by simp)).trans ((Below.heap_setCell V ⟨ba, 0, none⟩ (.int .u8 nk) (ba + 1) (by simp)).trans h2)
  have e2 := full_setCells n1 [.bool y] (by simp [hd])
  have b2 := below_setCells (ba + 1) (by omega) [.bool y] 0 w _ b1
  refine ⟨b2, (Below.heap_setCell _ ⟨ba + 1, 0, none⟩ (.bool y) ba (by simp)).trans e1, e2, ((KeepsOthers.setCell _ _ _).trans (KeepsOthers.setCell _ _ _)).trans (KeepsOthers.setCell _ _ _)⟩

set_option maxRecDepth 100000 in
set_option maxHeartbeats 4000000 in
theorem eNode_in (n : Nat) (hn : 5 ≤ n) (ad : Int) (w : World) :
    CallsIn Fence.wide n Tryd.prog 11 #[.int .u32 ad] w fun e w' => e = .returned (.tuple #[.agg #[.int .u8 (nodV ad).1, .int .i64 (nodV ad).2], .bool (nodB ad)]) ∧ Below w.heap.size w w' := by
  have h1n : 1 ≤ n := by omega
  refine callsIn_of_wp_marks Tryd.func11 rfl trivial ?_ rfl
  simp only [Tryd.ntmps11, List.size_toArray, List.length_nil, List.length_cons, Nat.reduceAdd, Nat.reduceSub, Array.replicate_succ, Array.replicate_zero, List.push_toArray, List.append_toArray, List.nil_append, List.cons_append]
  have hs : (((w.alloc (.cells #[.int .u32 ad] 24)).alloc (.cells #[.int .u8 0, .int .i64 0] 23)).alloc (.cells #[.bool false] 4)).heap.size = w.heap.size + 3 := by simp
  have bA := blkN (blkN (heap_alloc_new w (.cells #[.int .u32 ad] 24)) (.cells #[.int .u8 0, .int .i64 0] 23)) (.cells #[.bool false] 4)
  have bN := blkN (newN (w.alloc (.cells #[.int .u32 ad] 24)) (.cells #[.int .u8 0, .int .i64 0] 23) (w.heap.size + 1) (by simp)) (.cells #[.bool false] 4)
  have bO := newN ((w.alloc (.cells #[.int .u32 ad] 24)).alloc (.cells #[.int .u8 0, .int .i64 0] 23)) (.cells #[.bool false] 4) (w.heap.size + 2) (by simp)
  have L0 : Below w.heap.size w (((w.alloc (.cells #[.int .u32 ad] 24)).alloc (.cells #[.int .u8 0, .int .i64 0] 23)).alloc (.cells #[.bool false] 4)) := (((Below.refl _ w).alloc (Nat.le_refl _) _).alloc (by simp) _).alloc (by simp; omega) _
  gi_wp2_with fail
  generalize ((w.alloc (.cells #[.int .u32 ad] 24)).alloc (.cells #[.int .u8 0, .int .i64 0] 23)).alloc (.cells #[.bool false] 4) = W0 at *
  refine ⟨trivial, (addresses_in (n - 1) (by omega) W0).mono ?_⟩
  rintro e w1 ⟨rfl, hm, m1⟩
  rw [hs] at hm ⊢
  have bA1 := (m1.block _ (by omega)).trans bA
  have bN1 := (m1.block _ (by omega)).trans bN
  have bO1 := (m1.block _ (by omega)).trans bO
  have L1 := L0.trans (m1.mono L0.size)
  have hs1 : w.heap.size + 3 ≤ w1.heap.size := by have := m1.size; omega
  clear bA bN bO L0 m1 hs
  gi_wp2_with fail
  have bA2 := blkN bA1 (.cells #[.map (some (w.heap.size + 3))] 57)
  have bN2 := blkN bN1 (.cells #[.map (some (w.heap.size + 3))] 57)
  have bO2 := blkN bO1 (.cells #[.map (some (w.heap.size + 3))] 57)
  have hm2 := blkN hm (.cells #[.map (some (w.heap.size + 3))] 57)
  have bX2 := heap_alloc_new w1 (.cells #[.map (some (w.heap.size + 3))] 57)
  have L2 := L1.alloc L1.size (.cells #[.map (some (w.heap.size + 3))] 57)
  have hs2 : (w1.alloc (.cells #[.map (some (w.heap.size + 3))] 57)).heap.size = w1.heap.size + 1 := by simp
  generalize w1.alloc (.cells #[.map (some (w.heap.size + 3))] 57) = V at *
  generalize w1.heap.size = b4 at *
  clear bA1 bN1 bO1 hm L1
  refine ⟨trivial, (nodes_fn (n - 1) V).mono ?_⟩
  rintro e w2 ⟨rfl, rfl⟩
  have HV := Lib.hid (And.intro bA2 (And.intro bN2 (And.intro bO2 (And.intro hm2 (And.intro bX2 (And.intro L2 (And.intro hs1 hs2)))))))
  clear bA2 bN2 bO2 hm2 bX2 L2
  gi_wp2
  refine range_okD rfl h1n (gf := 43) (lb := #[]) rfl trivial (enters_of Tryd.func43 (by kernel_rfl) rfl)
      (nodes_okD (n - 1) (by omega) _) (fun _ _ _ _ _ _ h _ _ _ => h) (fun _ _ => trivial) (fun _ _ _ _ _ _ _ _ => trivial) (fun _ => rfl)
      (NoInv ad w2) (NoOut ad w2.heap.size w) (noInv_abide ad w2) (noOut_abide ad w2.heap.size w (by omega)) (fun _ _ h => ⟨⟨h.1.os, h.1.tape, h.1.output, h.1.size, h.1.block⟩, h.2⟩) ⟨Below.refl _ _, fun _ h => by cases h⟩
      (fun u => .cells #[.int .u8 u.1, .int .i64 u.2] 23) (fun _ _ => trivial) (fun _ _ _ h => h)
      (fun u b => { tmps := #[.int .u32 ad, .pointer (some ⟨w.heap.size, 0, none⟩), .pointer (some ⟨w.heap.size + 1, 0, none⟩), .pointer (some ⟨w.heap.size + 1 + 1, 0, none⟩), .pointer (some ⟨b4, 0, none⟩), .pointer (some ⟨b, 0, none⟩), .map (some (w.heap.size + 3)), .func (.func 43) #[] #[], .agg #[.int .u8 u.1, .int .i64 u.2], undef, undef, undef, undef, undef, undef, undef], defers := [] }) ?assign ?body ?done ?stop
  case assign =>
    intro l x W K hK
    simp only [encN] at hK ⊢
    gi_wp2
    exact hK
  case stop =>
    rintro D c pre W hD _ ⟨rfl, u, h1, h2, h3, h4, h5, h6⟩ hK
    have HU := Lib.hid (And.intro h1 (And.intro h2 (And.intro h3 (And.intro h5 (And.intro h6 hK)))))
    clear h1 h2 h3 h5 h6 hK
    gi_wp2
    refine ⟨by simp, .inl ⟨_, _, rfl, run_takeDeferred HU.out.2.2.2.2.2, ?_⟩⟩
    refine ⟨_, results_nd2 rfl _ _ (w.heap.size + 1) (w.heap.size + 2) _ (0, 0) true rfl ((World.putObj_heap_other (by omega)).trans HU.out.2.2.2.1) rfl rfl (ptrM_cell ((World.putObj_heap_other (by omega)).trans HU.out.2.2.2.2.1)), ?_, HU.out.2.2.1.trans (belowK_b (w := w) (Nat.le_refl _) W D _ _ (by omega) HU.out.2.2.2.2.2 rfl rfl)⟩
    have hn : nodAt ad = some u := by rw [← HU.out.2.1]; exact nodAt_adr _ HU.out.1
    unfold nodV nodB
    rw [hn]
    rfl
  case done =>
    rintro D ys W hD rfl ⟨hb, hno⟩ hK
    obtain ⟨k1, k2, k3, k4, k5, k6, k7, k8⟩ := HV.out
    have hS := stored_nd (w := w) 0 0 false (by omega) (k6.trans (hb.mono (by omega))) ((hb.block _ (by omega)).trans k2) ((hb.block _ (by omega)).trans k3) rfl rfl
    obtain ⟨q0, q1⟩ := nod_cells _ _ ((hb.block _ (by omega)).trans k2)
    have q2 := ptrM_cell ((hb.block _ (by omega)).trans k3)
    have f0 := nod_frozen ((hb.block _ (by omega)).trans k2) 0
    have f1 := nod_frozen ((hb.block _ (by omega)).trans k2) 1
    have f2 := bool_frozen ((hb.block _ (by omega)).trans k3) 0
    have HS := Lib.hid (And.intro hS (And.intro hno hK))
    clear k1 k2 k3 k4 k5 k6 k7 k8 hS hno hK hb
    gi_wp2
    obtain ⟨⟨s1, s2, s3, s4⟩, hno, hK⟩ := HS.out
    have hK2 := s4.same D _ hK rfl
    refine ⟨by simp, .inl ⟨_, _, rfl, run_takeDeferred hK2, ?_⟩⟩
    refine ⟨_, results_nd2 rfl _ _ (w.heap.size + 1) (w.heap.size + 2) _ (0, 0) false rfl ((World.putObj_heap_other (by omega)).trans s2) rfl rfl (ptrM_cell ((World.putObj_heap_other (by omega)).trans s3)), ?_, s1.trans (belowK_b (w := w) (Nat.le_refl _) _ D _ _ (by omega) hK2 rfl rfl)⟩
    have hn : nodAt ad = none := List.find?_eq_none.2 fun u hu hc => hno u hu (by simpa using hc)
    unfold nodV nodB
    rw [hn]
    rfl
  case body =>
    rintro l pre ⟨x1, x2⟩ W b ⟨hb, hno⟩ hx hb1 hb2 hbx
    obtain ⟨q0, q1⟩ := nod_cells _ _ hbx
    obtain ⟨k1, k2, k3, k4, k5, k6, k7, k8⟩ := HV.out
    have c1 := ptrM_cell ((hb.block _ (by omega)).trans k1)
    have c4 := ptrM_cell ((hb.block _ (by omega)).trans k5)
    have hlk : ∀ m, (Instr.lookup 57 (.map (some (w.heap.size + 3))) (.agg #[.int .u8 x1, .int .i64 x2]) false).run Tryd.prog (W.drewN m) = .ok (.int .u32 (adr (x1, x2))) (W.drewN m) := fun m => by
      have h := run_look (x1, x2) (w.heap.size + 3) (W.drewN m) ((hb.block _ (by omega)).trans k4) false
      have hv : adrV (x1, x2) = adr (x1, x2) := by unfold adrV; rw [isNod_mem.2 (nodOk_new hx).2]; rfl
      rw [hv] at h
      exact h
    obtain ⟨q2, q3⟩ := nod_cells _ _ ((hb.block _ (by omega)).trans k2)
    have q4 := ptrM_cell ((hb.block _ (by omega)).trans k3)
    have f2 := nod_frozen ((hb.block _ (by omega)).trans k2) 0
    have f3 := nod_frozen ((hb.block _ (by omega)).trans k2) 1
    have f4 := bool_frozen ((hb.block _ (by omega)).trans k3) 0
    have hS := fun m => stored_nd (w := w) (V := W.drewN m) x1 x2 true (by omega) (below_dr (k6.trans (hb.mono (by omega))) m) ((hb.block _ (by omega)).trans k2) ((hb.block _ (by omega)).trans k3) rfl rfl
    have HX := Lib.hid (And.intro (nodOk_new hx).2 (And.intro hb (And.intro hno hS)))
    clear k1 k2 k3 k4 k5 k6 k7 k8 hS hno hb hx hbx
    cases hp : (adr (x1, x2) == ad)
    · gi_wp2_with fail
      refine region_quiet_inRound l rfl (by kernel_rfl) (by kernel_rfl) (by kernel_rfl) ?_
      repeat (gi_big_quiet_step (fail))
      refine wpQuietIn_nil ?_
      intro _ hw'
      obtain ⟨nq, hw''⟩ := hw'
      subst hw''
      have HP := Lib.hid hp
      clear hp q0 q1 c1 c4 hlk q2 q3 q4 f2 f3 f4
      gi_wp2
      refine ⟨⟨Nat.le_refl _, fun _ _ _ h _ => h⟩, trivial, below_dr HX.out.2.1 nq, fun v hv => ?_⟩
      rcases List.mem_append.1 hv with hv | hv
      · exact HX.out.2.2.1 v hv
      · have := HP.out
        simp at hv
        subst hv
        simpa using this
    · gi_wp2_with fail
      refine region_quiet_inRound l rfl (by kernel_rfl) (by kernel_rfl) (by kernel_rfl) ?_
      repeat (gi_big_quiet_step (fail))
      refine wpQuietIn_nil ?_
      intro _ hw'
      obtain ⟨nq, hw''⟩ := hw'
      subst hw''
      have HP := Lib.hid hp
      clear hp c1 c4 hlk
      gi_wp2
      obtain ⟨s1, s2, s3, s4⟩ := HX.out.2.2.2 nq
      have hsz := s4.size
      have hsw : w2.heap.size ≤ W.heap.size := HX.out.2.1.size
      refine ⟨⟨hsz, fun k o _ hk ho => s4.same k o hk ho⟩, rfl, (x1, x2), HX.out.1, by simpa using HP.out, s1, Nat.le_trans hsw hsz, s2, s3⟩

theorem eNode_is (ad : Int) (w : World) :
    Calls Tryd.prog 11 #[.int .u32 ad] w fun e w' => e = .returned (.tuple #[.agg #[.int .u8 (nodV ad).1, .int .i64 (nodV ad).2], .bool (nodB ad)]) ∧ Below w.heap.size w w' :=
  callsIn_wide.1 (eNode_in 5 (by omega) ad w)
end Go.Proofs.YthenbpnlmpeafaaDoor
