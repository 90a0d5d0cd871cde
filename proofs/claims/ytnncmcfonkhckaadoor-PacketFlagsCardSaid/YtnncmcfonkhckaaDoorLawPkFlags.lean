/- 'handfastlaw05.PacketFlags' returns true at every two packets, and leaves what lay as it lay. -/
import Derived.Test.YtnncmcfonkhckaaDoorPkQ
namespace Go.Proofs.YtnncmcfonkhckaaDoor
open Go.RowKit Go.Shelf
open SumM
attribute [local go_sem ↓] Go.wp_at_zero Go.wp_at_succ

set_option maxRecDepth 100000 in
set_option maxHeartbeats 16000000 in
theorem pkFlags_walk (ts td tp tq kf : Int) (ka : Option Addr) (kn kc : Nat) (ks : List Int) (ts' td' tp' tq' kf' : Int) (ka' : Option Addr) (kn' kc' : Nat) (ks' : List Int) (w : World) (hT : Wid w ∧ 0 < w.heap.size) (H : IsPk w ts td tp tq kf ka kn kc ks) (H' : IsPk w ts' td' tp' tq' kf' ka' kn' kc' ks') :
    Calls Tryd.prog 6 #[.agg #[.int .u32 ts, .int .u32 td, .int .u16 tp, .int .u16 tq, .int .u8 kf, .slice ka kn kc], .agg #[.int .u32 ts', .int .u32 td', .int .u16 tp', .int .u16 tq', .int .u8 kf', .slice ka' kn' kc']] w fun e w' => e = .returned (.bool true) ∧ Below w.heap.size w w' := by
  have bB := heap_alloc_new (w.alloc (.cells #[.int .u32 ts, .int .u32 td, .int .u16 tp, .int .u16 tq, .int .u8 kf, .slice ka kn kc] 28)) (.cells #[.int .u32 ts', .int .u32 td', .int .u16 tp', .int .u16 tq', .int .u8 kf', .slice ka' kn' kc'] 28)
  rw [World.size_alloc] at bB
  have bA := (Below.heap_alloc (w.alloc (.cells #[.int .u32 ts, .int .u32 td, .int .u16 tp, .int .u16 tq, .int .u8 kf, .slice ka kn kc] 28)) (.cells #[.int .u32 ts', .int .u32 td', .int .u16 tp', .int .u16 tq', .int .u8 kf', .slice ka' kn' kc'] 28) w.heap.size (by simp)).trans (heap_alloc_new w (.cells #[.int .u32 ts, .int .u32 td, .int .u16 tp, .int .u16 tq, .int .u8 kf, .slice ka kn kc] 28))
  have L0 := ((Below.refl w.heap.size w).alloc (Nat.le_refl _) (.cells #[.int .u32 ts, .int .u32 td, .int .u16 tp, .int .u16 tq, .int .u8 kf, .slice ka kn kc] 28)).alloc (by simp) (.cells #[.int .u32 ts', .int .u32 td', .int .u16 tp', .int .u16 tq', .int .u8 kf', .slice ka' kn' kc'] 28)
  have TW := Lib.hid (fun W (m : Below w.heap.size w W) => kwakes_any W (Nat.lt_of_lt_of_le hT.2 m.size) (hT.1.below hT.2 m))
  have HK := Lib.hid H.hkf
  have hcs := flags_cases kf H.hkf
  have hb1 := H.hc
  have hb2 := H'.hc
  unfold maxLen at hb1 hb2
  obtain ⟨q0, q1, q2, q3, q4, q5⟩ := pk_cells _ _ _ _ _ _ _ _ bA
  obtain ⟨z0, z1, z2, z3, z4, z5⟩ := pk_cells _ _ _ _ _ _ _ _ bB
  clear H H' hT
  by_cases hbig : 3000 < kn ∨ 3000 < kn'
  · have hc : ∃ p q : Bool, decide ((3000 : Int) < (kn : Int)) = p ∧ decide ((3000 : Int) < (kn' : Int)) = q ∧ ((p = true) ∨ (p = false ∧ q = true)) := by
      refine ⟨_, _, rfl, rfl, ?_⟩
      by_cases h1 : 3000 < kn
      · exact .inl (decide_eq_true (by omega))
      · exact .inr ⟨decide_eq_false (by omega), decide_eq_true (by omega)⟩
    obtain ⟨p, q, p1, p2, hpq⟩ := hc
    rcases hpq with rfl | ⟨rfl, rfl⟩
    all_goals
      clear bA bB hbig hcs
      go_enter Tryd.func6, Tryd.ntmps6
      go_upto_region 1 with (fail)
      generalize (w.alloc (.cells #[.int .u32 ts, .int .u32 td, .int .u16 tp, .int .u16 tq, .int .u8 kf, .slice ka kn kc] 28)).alloc (.cells #[.int .u32 ts', .int .u32 td', .int .u16 tp', .int .u16 tq', .int .u8 kf', .slice ka' kn' kc'] 28) = W0 at *
      go_wp2_with (go_at_call 7; (with_reducible refine (TW.out _ L0).mono ?_); rintro e w3 ⟨rfl, m3⟩)
      go_ret
      exact ⟨rfl, L0.trans (m3.mono L0.size)⟩
  have p1 : decide ((3000 : Int) < (kn : Int)) = false := decide_eq_false (by omega)
  have p2 : decide ((3000 : Int) < (kn' : Int)) = false := decide_eq_false (by omega)
  clear hbig
  go_enter Tryd.func6, Tryd.ntmps6
  go_upto_region 1 with (fail)
  generalize (w.alloc (.cells #[.int .u32 ts, .int .u32 td, .int .u16 tp, .int .u16 tq, .int .u8 kf, .slice ka kn kc] 28)).alloc (.cells #[.int .u32 ts', .int .u32 td', .int .u16 tp', .int .u16 tq', .int .u8 kf', .slice ka' kn' kc'] 28) = W0 at *
  go_upto_region 4 with (fail)
  have bO0 := heap_alloc_new W0 (.cells #[.int .u32 ts', .int .u32 td', .int .u16 tp', .int .u16 tq', .int .u8 kf', .slice ka' kn' kc'] 28)
  have bA0 := (Below.heap_alloc W0 (.cells #[.int .u32 ts', .int .u32 td', .int .u16 tp', .int .u16 tq', .int .u8 kf', .slice ka' kn' kc'] 28) w.heap.size (Array.getElem?_eq_some_iff.1 bA).1).trans bA
  have L2 := L0.alloc L0.size (.cells #[.int .u32 ts', .int .u32 td', .int .u16 tp', .int .u16 tq', .int .u8 kf', .slice ka' kn' kc'] 28)
  have hbo : w.heap.size < W0.heap.size := (Array.getElem?_eq_some_iff.1 bA).1
  clear q0 q1 q2 q3 q4 q5 z0 z1 z2 z3 z4 z5
  generalize W0.alloc (.cells #[.int .u32 ts', .int .u32 td', .int .u16 tp', .int .u16 tq', .int .u8 kf', .slice ka' kn' kc'] 28) = W2 at *
  generalize W0.heap.size = bo at *
  obtain ⟨q0, q1, q2, q3, q4, q5⟩ := pk_cells _ _ _ _ _ _ _ _ bA0
  obtain ⟨z0, z1, z2, z3, z4, z5⟩ := pk_cells _ _ _ _ _ _ _ _ bO0
  have f4 := pk_frozen bO0 4
  have BA := Lib.hid (And.intro bA0 bO0)
  have HL2 := Lib.hid L2
  clear bA bB bA0 bO0 L0 L2
  go_upto_region 5 with (fail)
  have bO : (W2.setCell ⟨bo, 4, none⟩ (.int .u8 kf)).heap[bo]? = some (.cells #[.int .u32 ts', .int .u32 td', .int .u16 tp', .int .u16 tq', .int .u8 kf, .slice ka' kn' kc'] 28 (0, 0)) := heap_setCell_same W2 bo 4 _ _ (.int .u8 kf) BA.out.2
  have bA1 := (((Below.refl bo W2).setCell (p := ⟨bo, 4, none⟩) (Nat.le_refl _) (.int .u8 kf)).block _ hbo).trans BA.out.1
  have L1 := HL2.out.setCell (p := ⟨bo, 4, none⟩) (Nat.le_of_lt hbo) (.int .u8 kf)
  generalize W2.setCell ⟨bo, 4, none⟩ (.int .u8 kf) = W1 at *
  have CS := Lib.hid (fun W (m : Below W1.heap.size W1 W) => show (W.cell? ⟨w.heap.size, 0, none⟩ = some (.int .u32 ts) ∧ W.cell? ⟨w.heap.size, 1, none⟩ = some (.int .u32 td) ∧ W.cell? ⟨w.heap.size, 2, none⟩ = some (.int .u16 tp) ∧ W.cell? ⟨w.heap.size, 3, none⟩ = some (.int .u16 tq) ∧ W.cell? ⟨w.heap.size, 4, none⟩ = some (.int .u8 kf) ∧ W.cell? ⟨w.heap.size, 5, none⟩ = some (.slice ka kn kc)) ∧ (W.cell? ⟨bo, 0, none⟩ = some (.int .u32 ts') ∧ W.cell? ⟨bo, 1, none⟩ = some (.int .u32 td') ∧ W.cell? ⟨bo, 2, none⟩ = some (.int .u16 tp') ∧ W.cell? ⟨bo, 3, none⟩ = some (.int .u16 tq') ∧ W.cell? ⟨bo, 4, none⟩ = some (.int .u8 kf) ∧ W.cell? ⟨bo, 5, none⟩ = some (.slice ka' kn' kc')) from
    ⟨pk_cells _ _ _ _ _ _ _ _ ((m.block _ (Array.getElem?_eq_some_iff.1 bA1).1).trans bA1), pk_cells _ _ _ _ _ _ _ _ ((m.block _ (Array.getElem?_eq_some_iff.1 bO).1).trans bO)⟩)
  have KS := Lib.hid (fun W => pkSyn_any ts td tp tq kf ka kn kc HK.out W)
  have KC := Lib.hid (fun W => pkCloses_any ts td tp tq kf ka kn kc HK.out W)
  have KSO := Lib.hid (fun W => pkSyn_any ts' td' tp' tq' kf ka' kn' kc' HK.out W)
  have KCO := Lib.hid (fun W => pkCloses_any ts' td' tp' tq' kf ka' kn' kc' HK.out W)
  have TX := Lib.hid (fun W (m : Below W1.heap.size W1 W) => TW.out W (L1.trans (m.mono L1.size)))
  have nc := (Below.refl W1.heap.size W1).drew
  have H1 := Lib.hid L1
  clear q0 q1 q2 q3 q4 q5 z0 z1 z2 z3 z4 z5 f4 bO bA1 L1 TW HK hb1 hb2 BA HL2
  generalize syB kf = sy at *
  generalize clB kf = cl at *
  generalize hlo : bits .and .u8 kf 7 = lo at *
  have HLO := Lib.hid hlo
  clear hlo
  rcases hcs with ⟨rfl, rfl, rfl⟩ | ⟨rfl, rfl, rfl⟩ | ⟨g1, g2, rfl, rfl⟩
  all_goals
    go_cut [41] (fun s41 wx => s41 = .bool false ∧ Below W1.heap.size W1 wx)
    case first =>
      obtain ⟨⟨a0, a1, a2, a3, a4, a5⟩, ⟨b0, b1, b2, b3, b4, b5⟩⟩ := CS.out _ nc
      first
        | (go_region_with (first
          | (go_at_call 14; (with_reducible refine (KS.out _).mono ?_); rintro e wc ⟨rfl, kk⟩; have nc := nc.trans (kk.mono nc.size); clear kk; obtain ⟨⟨a0, a1, a2, a3, a4, a5⟩, ⟨b0, b1, b2, b3, b4, b5⟩⟩ := CS.out _ nc)
          | (go_at_call 16; (with_reducible refine (KC.out _).mono ?_); rintro e wc ⟨rfl, kk⟩; have nc := nc.trans (kk.mono nc.size); clear kk; obtain ⟨⟨a0, a1, a2, a3, a4, a5⟩, ⟨b0, b1, b2, b3, b4, b5⟩⟩ := CS.out _ nc)
          | (go_at_call 14; (with_reducible refine (KSO.out _).mono ?_); rintro e wc ⟨rfl, kk⟩; have nc := nc.trans (kk.mono nc.size); clear kk; obtain ⟨⟨a0, a1, a2, a3, a4, a5⟩, ⟨b0, b1, b2, b3, b4, b5⟩⟩ := CS.out _ nc)
          | (go_at_call 16; (with_reducible refine (KCO.out _).mono ?_); rintro e wc ⟨rfl, kk⟩; have nc := nc.trans (kk.mono nc.size); clear kk; obtain ⟨⟨a0, a1, a2, a3, a4, a5⟩, ⟨b0, b1, b2, b3, b4, b5⟩⟩ := CS.out _ nc)))
        | fail
      all_goals (go_wp2_with fail; go_meet; exact ⟨rfl, nc⟩)
    case rest =>
      obtain ⟨rfl, nd⟩ := hcut
      obtain ⟨⟨a0, a1, a2, a3, a4, a5⟩, ⟨b0, b1, b2, b3, b4, b5⟩⟩ := CS.out _ nd
      have hlo := HLO.out
      first
        | (have r1 : (lo != 0) = true := by simpa using g1
           have r2 : (lo == 0) = false := by simpa using g1
           have r3 : (lo != 2) = true := by simpa using g2
           have r4 : (lo == 2) = false := by simpa using g2)
        | skip
      go_wp2_with (first
        | (go_at_call 14; (with_reducible refine (KS.out _).mono ?_); rintro e wc ⟨rfl, kk⟩; have nd := nd.trans (kk.mono nd.size); clear kk; obtain ⟨⟨a0, a1, a2, a3, a4, a5⟩, ⟨b0, b1, b2, b3, b4, b5⟩⟩ := CS.out _ nd)
        | (go_at_call 16; (with_reducible refine (KC.out _).mono ?_); rintro e wc ⟨rfl, kk⟩; have nd := nd.trans (kk.mono nd.size); clear kk; obtain ⟨⟨a0, a1, a2, a3, a4, a5⟩, ⟨b0, b1, b2, b3, b4, b5⟩⟩ := CS.out _ nd)
        | (go_at_call 7; (with_reducible refine (TX.out _ nd).mono ?_); rintro e wz ⟨rfl, kz⟩; have nz := nd.trans (kz.mono nd.size)))
      go_ret
      exact ⟨rfl, H1.out.trans (nz.mono H1.out.size)⟩
end Go.Proofs.YtnncmcfonkhckaaDoor
