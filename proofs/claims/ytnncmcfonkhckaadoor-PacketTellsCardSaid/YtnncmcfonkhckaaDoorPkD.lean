/- Package packet: what Closes, Syn, Same and Own answer. -/
import Derived.Test.YtnncmcfonkhckaaDoorPkCore
import Derived.Test.YtnncmcfonkhckaaDoorIpMore
namespace Go.Proofs.YtnncmcfonkhckaaDoor
open Go.RowKit Go.Shelf
open SumM

theorem Tryd.infoTupS : (Tryd.prog.info? 26).map (·.size) = some 4 := by kernel_rfl

theorem cl5_all : ∀ n : Fin 256, (bits .and .u8 (n.val : Int) 5 != 0) = clB (n.val : Int) := by decide +kernel
theorem cl5 (kf : Int) (h : 0 ≤ kf ∧ kf ≤ 255) : (bits .and .u8 kf 5 != 0) = clB kf := by
  have h1 := cl5_all ⟨kf.toNat, by omega⟩
  rwa [show ((⟨kf.toNat, by omega⟩ : Fin 256).val : Int) = kf by simp; omega] at h1

set_option maxRecDepth 100000 in
theorem pkCloses_any (ts td tp tq kf : Int) (ka : Option Addr) (kn kc : Nat) (hk : 0 ≤ kf ∧ kf ≤ 255) (w : World) :
    Calls Tryd.prog 16 #[.agg #[.int .u32 ts, .int .u32 td, .int .u16 tp, .int .u16 tq, .int .u8 kf, .slice ka kn kc]] w fun e w' => e = .returned (.bool (clB kf)) ∧ Below w.heap.size w w' := by
  have L0 := Lib.hid ((Below.refl w.heap.size w).alloc (Nat.le_refl _) (.cells #[.int .u32 ts, .int .u32 td, .int .u16 tp, .int .u16 tq, .int .u8 kf, .slice ka kn kc] 28))
  rw [← cl5 kf hk]
  clear hk
  go_enter Tryd.func16, Tryd.ntmps16
  go_wp2
  all_goals
    go_ret
    exact ⟨by simp [*], L0.out⟩

set_option maxRecDepth 100000 in
theorem pkSyn_any (ts td tp tq kf : Int) (ka : Option Addr) (kn kc : Nat) (hk : 0 ≤ kf ∧ kf ≤ 255) (w : World) :
    Calls Tryd.prog 14 #[.agg #[.int .u32 ts, .int .u32 td, .int .u16 tp, .int .u16 tq, .int .u8 kf, .slice ka kn kc]] w fun e w' => e = .returned (.bool (syB kf)) ∧ Below w.heap.size w w' := by
  have L0 := (Below.refl w.heap.size w).alloc (Nat.le_refl _) (.cells #[.int .u32 ts, .int .u32 td, .int .u16 tp, .int .u16 tq, .int .u8 kf, .slice ka kn kc] 28)
  have H0 := Lib.hid L0
  have HK := Lib.hid hk
  clear hk
  unfold syB
  go_enter Tryd.func14, Tryd.ntmps14
  go_wp2_with (go_at_call 16; (with_reducible refine (pkCloses_any ts td tp tq kf ka kn kc HK.out _).mono ?_); rintro e w1 ⟨rfl, m1⟩)
  all_goals
    go_ret
    first
      | exact ⟨by simp [*], H0.out.trans (m1.mono H0.out.size)⟩
      | exact ⟨by simp [*], H0.out⟩

set_option maxRecDepth 100000 in
set_option maxHeartbeats 2000000 in
theorem pkSame_any (ts td tp tq kf : Int) (ka : Option Addr) (kn kc : Nat) (ts' td' tp' tq' kf' : Int) (ka' : Option Addr) (kn' kc' : Nat) (zs zs' : List Int) (B B' : Nat) (w : World) (hB : B ≤ w.heap.size) (hB' : B' ≤ w.heap.size) (hr : Row .u8 B w ka zs) (hl : zs.length = kn) (hr' : Row .u8 B' w ka' zs') (hl' : zs'.length = kn') :
    Calls Tryd.prog 18 #[.agg #[.int .u32 ts, .int .u32 td, .int .u16 tp, .int .u16 tq, .int .u8 kf, .slice ka kn kc], .agg #[.int .u32 ts', .int .u32 td', .int .u16 tp', .int .u16 tq', .int .u8 kf', .slice ka' kn' kc']] w fun e w' => e = .returned (.bool (pkB ts td tp tq kf zs ts' td' tp' tq' kf' zs')) ∧ Below w.heap.size w w' := by
  have bB := heap_alloc_new (w.alloc (.cells #[.int .u32 ts, .int .u32 td, .int .u16 tp, .int .u16 tq, .int .u8 kf, .slice ka kn kc] 28)) (.cells #[.int .u32 ts', .int .u32 td', .int .u16 tp', .int .u16 tq', .int .u8 kf', .slice ka' kn' kc'] 28)
  rw [World.size_alloc] at bB
  have bA := (Below.heap_alloc (w.alloc (.cells #[.int .u32 ts, .int .u32 td, .int .u16 tp, .int .u16 tq, .int .u8 kf, .slice ka kn kc] 28)) (.cells #[.int .u32 ts', .int .u32 td', .int .u16 tp', .int .u16 tq', .int .u8 kf', .slice ka' kn' kc'] 28) w.heap.size (by simp)).trans (heap_alloc_new w (.cells #[.int .u32 ts, .int .u32 td, .int .u16 tp, .int .u16 tq, .int .u8 kf, .slice ka kn kc] 28))
  have L0 := ((Below.refl w.heap.size w).alloc (Nat.le_refl _) (.cells #[.int .u32 ts, .int .u32 td, .int .u16 tp, .int .u16 tq, .int .u8 kf, .slice ka kn kc] 28)).alloc (by simp) (.cells #[.int .u32 ts', .int .u32 td', .int .u16 tp', .int .u16 tq', .int .u8 kf', .slice ka' kn' kc'] 28)
  have s1 := (hr.below (L0.mono hB))
  have s2 := (hr'.below (L0.mono hB'))
  have E1 := fun W => run_eqU ts td tp tq ts' td' tp' tq' W
  obtain ⟨q0, q1, q2, q3, q4, q5⟩ := pk_cells _ _ _ _ _ _ _ _ bA
  obtain ⟨z0, z1, z2, z3, z4, z5⟩ := pk_cells _ _ _ _ _ _ _ _ bB
  unfold pkB
  generalize eqU ts td tp tq ts' td' tp' tq' = b1 at *
  clear hr hr' bA bB
  go_enter Tryd.func18, Tryd.ntmps18
  go_upto_region 1 with (fail)
  generalize (w.alloc (.cells #[.int .u32 ts, .int .u32 td, .int .u16 tp, .int .u16 tq, .int .u8 kf, .slice ka kn kc] 28)).alloc (.cells #[.int .u32 ts', .int .u32 td', .int .u16 tp', .int .u16 tq', .int .u8 kf', .slice ka' kn' kc'] 28) = W0 at *
  have HB := Lib.hid (And.intro (Nat.le_trans hB L0.size) (Nat.le_trans hB' L0.size))
  have HL := Lib.hid (And.intro hl hl')
  have H1 := Lib.hid s1
  have H2 := Lib.hid s2
  have H0 := Lib.hid L0
  clear L0 s1 s2 hl hl' hB hB'
  cases b1
  · go_wp2
    go_ret
    exact ⟨rfl, H0.out⟩
  · by_cases hk : kf = kf'
    · subst hk
      have e1 : (kf == kf) = true := by simp
      go_wp2_with (go_at_call 29; refine (equal_any ka kn kc zs ka' kn' kc' zs' W0.heap.size W0.heap.size _ (H1.out.more HB.out.1) HL.out.1 (H2.out.more HB.out.2) HL.out.2).mono ?_; rintro e w1 ⟨rfl, rfl⟩)
      go_ret
      exact ⟨ret_bool (by rw [e1]; simp), H0.out⟩
    · have e1 : (kf == kf') = false := by simpa using hk
      clear hk
      go_wp2
      go_ret
      exact ⟨ret_bool (by rw [e1]; rfl), H0.out⟩

set_option maxRecDepth 100000 in
set_option maxHeartbeats 2000000 in
theorem pkOwn_any (ts td tp tq kf : Int) (ka : Option Addr) (kn kc : Nat) (zs : List Int) (w : World) (hr : Row .u8 w.heap.size w ka zs) (hl : zs.length = kn) (hn : ka = none → kc = 0) (hle : kn ≤ 1000000) :
    Calls Tryd.prog 19 #[.agg #[.int .u32 ts, .int .u32 td, .int .u16 tp, .int .u16 tq, .int .u8 kf, .slice ka kn kc]] w fun e w' => ∃ A c, e = .returned (.agg #[.int .u32 ts, .int .u32 td, .int .u16 tp, .int .u16 tq, .int .u8 kf, .slice A kn c]) ∧ Row .u8 w'.heap.size w' A zs ∧ Below w.heap.size w w' := by
  have bA := (Below.heap_alloc _ (.cells #[.int .u32 0, .int .u32 0, .int .u16 0, .int .u16 0, .int .u8 0, .slice none 0 0] 28) w.heap.size (by simp)).trans (heap_alloc_new w (.cells #[.int .u32 ts, .int .u32 td, .int .u16 tp, .int .u16 tq, .int .u8 kf, .slice ka kn kc] 28))
  have bB := heap_alloc_new (w.alloc (.cells #[.int .u32 ts, .int .u32 td, .int .u16 tp, .int .u16 tq, .int .u8 kf, .slice ka kn kc] 28)) (.cells #[.int .u32 0, .int .u32 0, .int .u16 0, .int .u16 0, .int .u8 0, .slice none 0 0] 28)
  rw [World.size_alloc] at bB
  have L0 := ((Below.refl w.heap.size w).alloc (Nat.le_refl _) (.cells #[.int .u32 ts, .int .u32 td, .int .u16 tp, .int .u16 tq, .int .u8 kf, .slice ka kn kc] 28)).alloc (by simp) (.cells #[.int .u32 0, .int .u32 0, .int .u16 0, .int .u16 0, .int .u8 0, .slice none 0 0] 28)
  have hz : w.heap.size + 2 ≤ ((w.alloc (.cells #[.int .u32 ts, .int .u32 td, .int .u16 tp, .int .u16 tq, .int .u8 kf, .slice ka kn kc] 28)).alloc (.cells #[.int .u32 0, .int .u32 0, .int .u16 0, .int .u16 0, .int .u8 0, .slice none 0 0] 28)).heap.size := by simp
  obtain ⟨q0, q1, q2, q3, q4, q5⟩ := pk_cells _ _ _ _ _ _ _ _ bA
  have HI := Lib.hid (row_in hr)
  have K := Lib.hid (clone_any ka kn kc zs hl _ ((hr.below L0).more L0.size) hn (by omega))
  have HL := Lib.hid hl
  clear hr hl hn hle
  go_enter Tryd.func19, Tryd.ntmps19
  go_upto_region 1 with (fail)
  generalize (w.alloc (.cells #[.int .u32 ts, .int .u32 td, .int .u16 tp, .int .u16 tq, .int .u8 kf, .slice ka kn kc] 28)).alloc (.cells #[.int .u32 0, .int .u32 0, .int .u16 0, .int .u16 0, .int .u8 0, .slice none 0 0] 28) = W0 at *
  go_wp2_with (fail)
  refine K.out.mono ?_
  rintro e w1 ⟨A, c, rfl, ho, m1⟩
  have hd1 := (m1.block _ (by omega)).trans bA
  have hd2 := (m1.block _ (by omega)).trans bB
  have M1 := Lib.hid m1
  have HO := Lib.hid ho
  have hs : w.heap.size ≤ W0.heap.size := by omega
  clear bA bB m1 ho q0 q1 q2 q3 q4 q5 K
  rw [HL.out] at HO
  rw [HL.out]
  have f5 := pk_frozen hd1 5
  have g0 := pk_frozen hd2 0
  have g1 := pk_frozen hd2 1
  have g2 := pk_frozen hd2 2
  have g3 := pk_frozen hd2 3
  have g4 := pk_frozen hd2 4
  have g5 := pk_frozen hd2 5
  obtain ⟨z0, z1, z2, z3, z4, z5⟩ := pk_cells _ _ _ _ _ _ _ _ hd2
  have hd3 := heap_setCell_same w1 w.heap.size 5 _ _ (.slice A kn c) hd1
  have hd4 := (Below.heap_setCell w1 ⟨w.heap.size, 5, none⟩ (.slice A kn c) (w.heap.size + 1) (by simp)).trans hd2
  obtain ⟨q0, q1, q2, q3, q4, q5⟩ := pk_cells _ _ _ _ _ _ _ _ hd1
  have HD1 := Lib.hid hd1
  have HD3 := Lib.hid hd4
  have HL0 := Lib.hid (L0.trans (M1.out.mono hs))
  clear hd1 hd2 hd3 hd4 L0 hs hz
  go_wp2
  have O6 := own_apartN (by decide) [.int .u32 ts, .int .u32 td, .int .u16 tp, .int .u16 tq, .int .u8 kf, .slice A kn c] 0 _ _ (own_apart HO.out HD1.out (by decide) 5 (.slice A kn c)) HD3.out
  have B6 := below_setCells (w.heap.size + 1) (by omega : w.heap.size ≤ w.heap.size + 1) [.int .u32 ts, .int .u32 td, .int .u16 tp, .int .u16 tq, .int .u8 kf, .slice A kn c] 0 w _ (HL0.out.setCell (p := ⟨w.heap.size, 5, none⟩) (Nat.le_refl _) (.slice A kn c))
  refine bodyPost_ret (results_cell_row rfl _ _ (w.heap.size + 1) 28 _ (0, 0) _ rfl (full_setCells HD3.out [.int .u32 ts, .int .u32 td, .int .u16 tp, .int .u16 tq, .int .u8 kf, .slice A kn c] rfl) Tryd.underlying28 rfl Tryd.infoPk) rfl ?_
  exact ⟨A, c, rfl, Row.of_own O6 (in_wf8 HI.out), B6⟩
end Go.Proofs.YtnncmcfonkhckaaDoor
