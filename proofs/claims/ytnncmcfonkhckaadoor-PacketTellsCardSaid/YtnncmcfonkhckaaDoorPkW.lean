/- handfastlaw05: one, wakes. -/
import Derived.Test.YtnncmcfonkhckaaDoorPkS
namespace Go.Proofs.YtnncmcfonkhckaaDoor
open Go.RowKit Go.Shelf
open SumM

set_option maxRecDepth 100000 in
theorem kone_any (w : World) : Calls Tryd.prog 22 #[] w fun e w' => e = .returned (.agg #[.int .u32 167772161, .int .u32 167772162, .int .u16 1000, .int .u16 80]) ∧ Below w.heap.size w w' := by
  have bB := heap_alloc_new w (.cells #[.int .u32 0, .int .u32 0, .int .u16 0, .int .u16 0] 26)
  have L0 := (Below.refl w.heap.size w).alloc (Nat.le_refl _) (.cells #[.int .u32 0, .int .u32 0, .int .u16 0, .int .u16 0] 26)
  obtain ⟨z0, z1, z2, z3⟩ := tup_cells _ _ _ _ bB
  have f0 := tup_frozen bB 0
  have f1 := tup_frozen bB 1
  have f2 := tup_frozen bB 2
  have f3 := tup_frozen bB 3
  go_enter Tryd.func22, Tryd.ntmps22
  go_upto_region 1 with (fail)
  generalize w.alloc (.cells #[.int .u32 0, .int .u32 0, .int .u16 0, .int .u16 0] 26) = W0 at *
  go_wp2
  refine bodyPost_ret (results_cell_row rfl _ _ w.heap.size 26 _ (0, 0) _ rfl (full_setCells bB [.int .u32 167772161, .int .u32 167772162, .int .u16 1000, .int .u16 80] rfl) Tryd.underlying26 rfl Tryd.infoTupS) rfl ?_
  exact ⟨rfl, below_setCells w.heap.size (Nat.le_refl _) [.int .u32 167772161, .int .u32 167772162, .int .u16 1000, .int .u16 80] 0 w _ L0⟩

/-- The bytes of the document's SYN. -/
def kex : List Int := mkB 167772161 167772162 1000 80 2 []
theorem kex_nums : UNums 167772161 167772162 1000 80 := ⟨by decide, by decide, by decide, by decide⟩
theorem kex_tnums : TNums 1000 80 2 := ⟨by decide, by decide, by decide⟩
theorem kex_length : kex.length = 40 := (mk_facts (ps := []) (by decide) (by decide) kex_tnums (by intro x hx; cases hx) (by decide)).1
theorem kex_in : In 255 kex := (mk_facts (ps := []) (by decide) (by decide) kex_tnums (by intro x hx; cases hx) (by decide)).2.2.2.2.2.2.2.2
theorem kex_why : pkwhy kex = 0 := pkwhy_mk (by decide) (by decide) kex_tnums (by intro x hx; cases hx) (by decide)
theorem kex_39 : pkwhy (kex.take 39) = 4 := by decide +kernel
theorem kex_nil : pkwhy [] = 1 := by decide +kernel
theorem kex_data : segAt kex 8 = 167772161 ∧ segAt kex 9 = 167772162 ∧ wordAt (kex.drop (hlOf kex)) 0 = 1000 ∧ wordAt (kex.drop (hlOf kex)) 1 = 80 ∧ (kex.drop (hlOf kex))[13]?.getD 0 = 2 := by decide +kernel

/-- Parse of bytes that are a packet; of bytes that are none. -/
theorem pkParse_yes (a : Option Addr) (len cap : Nat) (bs : List Int) (hlen : bs.length = len) (hlc : len ≤ cap) (hc : cap ≤ 9223372036854775807) (hln : len ≤ 1000000) (w : World) (hg : 0 < w.heap.size) (hW : Wid w) (hR : Row .u8 w.heap.size w a bs) (h0 : pkwhy bs = 0) :
    Calls Tryd.prog 8 #[.slice a len cap] w fun e w' => ∃ A c, e = .returned (.tuple #[.agg #[.int .u32 (segAt bs 8), .int .u32 (segAt bs 9), .int .u16 (wordAt (bs.drop (hlOf bs)) 0), .int .u16 (wordAt (bs.drop (hlOf bs)) 1), .int .u8 ((bs.drop (hlOf bs))[13]?.getD 0), .slice A len c], .int .u8 0]) ∧
      w'.ownsRow w.heap.size 5 1 (.slice A len c) len (bs.map (Value.int .u8)) ∧ Below w.heap.size w w' := by
  refine (pkParse_any a len cap bs hlen hlc hc hln w hg hW hR).mono ?_
  rintro e w' (⟨h1, _, _⟩ | ⟨_, A, c, he, o, m⟩)
  · exact absurd h0 h1
  · rw [hlen] at he o
    exact ⟨A, c, he, o, m⟩

theorem pkParse_not (a : Option Addr) (len cap : Nat) (bs : List Int) (hlen : bs.length = len) (hlc : len ≤ cap) (hc : cap ≤ 9223372036854775807) (hln : len ≤ 1000000) (w : World) (hg : 0 < w.heap.size) (hW : Wid w) (hR : Row .u8 w.heap.size w a bs) (y : Int) (hy : pkwhy bs = y) (h0 : y ≠ 0) :
    Calls Tryd.prog 8 #[.slice a len cap] w fun e w' => e = .returned (.tuple #[.agg #[.int .u32 0, .int .u32 0, .int .u16 0, .int .u16 0, .int .u8 0, .slice none 0 0], .int .u8 y]) ∧ Below w.heap.size w w' := by
  subst hy
  refine (pkParse_any a len cap bs hlen hlc hc hln w hg hW hR).mono ?_
  rintro e w' (⟨h1, he, m⟩ | ⟨h1, _⟩)
  · exact ⟨he, m⟩
  · exact absurd h1 h0

set_option maxRecDepth 100000 in
set_option maxHeartbeats 8000000 in
theorem kwakes_any (w : World) (hg : 0 < w.heap.size) (hW : Wid w) : Calls Tryd.prog 7 #[] w fun e w' => e = .returned (.bool true) ∧ Below w.heap.size w w' := by
  have HW := Lib.hid (fun W (m : Below w.heap.size w W) => And.intro (Nat.lt_of_lt_of_le hg m.size) (hW.below hg m))
  clear hg hW
  go_enter Tryd.func7, Tryd.ntmps7
  go_wp2_with (fail)
  refine (kone_any w).mono ?_
  rintro e w1 ⟨rfl, m1⟩
  go_wp2_with (fail)
  refine (pkMake_any 167772161 167772162 1000 80 2 none 0 0 [] kex_nums (by decide) (by decide) w1 (HW.out _ m1).1 (HW.out _ m1).2 (Row.nil _ _ _ _) rfl (fun _ => rfl)).mono ?_
  rintro e w2 ⟨A2, n2, c2, rfl, hz2, R2, hn2, hc2, hcm2, m2⟩
  have L2 := m1.trans (m2.mono m1.size)
  have hm : mkZ 167772161 167772162 1000 80 2 [] = kex := by unfold mkZ kex; rw [if_pos (by decide)]
  rw [hm] at hz2 R2
  rw [kex_length] at hz2
  subst hz2
  rw [show decide (40 + ([] : List Int).length ≤ 65535) = true by decide]
  have RB := Lib.hid (fun W (m : Below w2.heap.size w2 W) => (R2.below m).more m.size)
  obtain ⟨b2, off2, rfl, hb2, _⟩ := R2.2 (by rw [kex_length]; decide)
  clear m1 m2 hm R2 hn2
  go_wp2_with (fail)
  refine (pkParse_yes _ 40 c2 kex kex_length hc2 hcm2 (by decide) w2 (HW.out _ L2).1 (HW.out _ L2).2 (RB.out _ (Below.refl _ _)) kex_why).mono ?_
  rw [kex_data.1, kex_data.2.1, kex_data.2.2.1, kex_data.2.2.2.1, kex_data.2.2.2.2]
  rintro e w3 ⟨A3, c3, rfl, o3, m3⟩
  have L3 := L2.trans (m3.mono L2.size)
  have RP := Lib.hid (Row.of_own o3 (in_wf8 kex_in))
  have hp3 := own_cap o3
  have ha3 : A3 = none → c3 = 0 := fun hA => by
    subst hA
    rcases o3.2 with ⟨h1, _⟩ | ⟨g, cap, cur, h1, _⟩
    · injection h1 with h1 h2 h3
    · injection h1 with h1
      cases h1
  have HA3 := Lib.hid ha3
  clear o3 ha3
  have hm39 : min (40 : Int) 39 = 39 := by decide
  have hc39 : (39 : Int) ≤ (c2 : Int) := by omega
  go_wp2_with (fail)
  have bP := heap_alloc_new w3 (.cells #[.int .u32 167772161, .int .u32 167772162, .int .u16 1000, .int .u16 80, .int .u8 2, .slice A3 40 c3] 28)
  have L4 := L3.alloc L3.size (.cells #[.int .u32 167772161, .int .u32 167772162, .int .u16 1000, .int .u16 80, .int .u8 2, .slice A3 40 c3] 28)
  have k4 := m3.alloc m3.size (.cells #[.int .u32 167772161, .int .u32 167772162, .int .u16 1000, .int .u16 80, .int .u8 2, .slice A3 40 c3] 28)
  have RP4 := Lib.hid ((RP.out.below ((Below.refl _ w3).alloc (Nat.le_refl _) (.cells #[.int .u32 167772161, .int .u32 167772162, .int .u16 1000, .int .u16 80, .int .u8 2, .slice A3 40 c3] 28))).more (by simp : w3.heap.size ≤ (w3.alloc (.cells #[.int .u32 167772161, .int .u32 167772162, .int .u16 1000, .int .u16 80, .int .u8 2, .slice A3 40 c3] 28)).heap.size))
  generalize w3.alloc (.cells #[.int .u32 167772161, .int .u32 167772162, .int .u16 1000, .int .u16 80, .int .u8 2, .slice A3 40 c3] 28) = W4 at *
  generalize w3.heap.size = bp at *
  clear L3 m3 RP
  refine (pkParse_not _ 39 c2 (kex.take 39) (by rw [List.length_take, kex_length]; rfl) (by omega) hcm2 (by decide) W4 (HW.out _ L4).1 (HW.out _ L4).2 ((RB.out _ k4).take 39) 4 kex_39 (by decide)).mono ?_
  rintro e w5 ⟨rfl, m5⟩
  have L5 := L4.trans (m5.mono L4.size)
  have bP5 := (m5.block _ (Array.getElem?_eq_some_iff.1 bP).1).trans bP
  have k5 := k4.trans (m5.mono k4.size)
  have RP5 := Lib.hid ((RP4.out.below m5).more m5.size)
  clear L4 bP k4 RP4 m5
  go_wp2_with (fail)
  have bQ := heap_alloc_new w5 (.cells #[.int .u32 0, .int .u32 0, .int .u16 0, .int .u16 0, .int .u8 0, .slice none 0 0] 28)
  have bP6 := (Below.heap_alloc w5 (.cells #[.int .u32 0, .int .u32 0, .int .u16 0, .int .u16 0, .int .u8 0, .slice none 0 0] 28) bp (Array.getElem?_eq_some_iff.1 bP5).1).trans bP5
  have L6 := L5.alloc L5.size (.cells #[.int .u32 0, .int .u32 0, .int .u16 0, .int .u16 0, .int .u8 0, .slice none 0 0] 28)
  have k6 := k5.alloc k5.size (.cells #[.int .u32 0, .int .u32 0, .int .u16 0, .int .u16 0, .int .u8 0, .slice none 0 0] 28)
  have RP6 := Lib.hid ((RP5.out.below ((Below.refl _ w5).alloc (Nat.le_refl _) (.cells #[.int .u32 0, .int .u32 0, .int .u16 0, .int .u16 0, .int .u8 0, .slice none 0 0] 28))).more (by simp : w5.heap.size ≤ (w5.alloc (.cells #[.int .u32 0, .int .u32 0, .int .u16 0, .int .u16 0, .int .u8 0, .slice none 0 0] 28)).heap.size))
  generalize w5.alloc (.cells #[.int .u32 0, .int .u32 0, .int .u16 0, .int .u16 0, .int .u8 0, .slice none 0 0] 28) = W6 at *
  generalize w5.heap.size = bq at *
  clear L5 bP5 k5 RP5
  refine (pkParse_not none 0 0 [] rfl (Nat.le_refl _) (by decide) (by decide) W6 (HW.out _ L6).1 (HW.out _ L6).2 (Row.nil _ _ _ _) 1 kex_nil (by decide)).mono ?_
  rintro e w7 ⟨rfl, m7⟩
  have L7 := L6.trans (m7.mono L6.size)
  have bP7 := (m7.block _ (Array.getElem?_eq_some_iff.1 bP6).1).trans bP6
  have bQ7 := (m7.block _ (Array.getElem?_eq_some_iff.1 bQ).1).trans bQ
  have k7 := k6.trans (m7.mono k6.size)
  have RP7 := Lib.hid ((RP6.out.below m7).more m7.size)
  clear L6 bP6 bQ k6 RP6 m7
  have L8 := L7.alloc L7.size (.cells #[.int .u32 0, .int .u32 0, .int .u16 0, .int .u16 0, .int .u8 0, .slice none 0 0] 28)
  have bP8 := (Below.heap_alloc w7 (.cells #[.int .u32 0, .int .u32 0, .int .u16 0, .int .u16 0, .int .u8 0, .slice none 0 0] 28) bp (Array.getElem?_eq_some_iff.1 bP7).1).trans bP7
  have bQ8 := (Below.heap_alloc w7 (.cells #[.int .u32 0, .int .u32 0, .int .u16 0, .int .u16 0, .int .u8 0, .slice none 0 0] 28) bq (Array.getElem?_eq_some_iff.1 bQ7).1).trans bQ7
  have k8 := k7.alloc k7.size (.cells #[.int .u32 0, .int .u32 0, .int .u16 0, .int .u16 0, .int .u8 0, .slice none 0 0] 28)
  have RP8 := Lib.hid ((RP7.out.below ((Below.refl _ w7).alloc (Nat.le_refl _) (.cells #[.int .u32 0, .int .u32 0, .int .u16 0, .int .u16 0, .int .u8 0, .slice none 0 0] 28))).more (by simp : w7.heap.size ≤ (w7.alloc (.cells #[.int .u32 0, .int .u32 0, .int .u16 0, .int .u16 0, .int .u8 0, .slice none 0 0] 28)).heap.size))
  clear L7 bP7 bQ7 k7 RP7
  go_wp2_with (fail)
  generalize w7.alloc (.cells #[.int .u32 0, .int .u32 0, .int .u16 0, .int .u16 0, .int .u8 0, .slice none 0 0] 28) = W8 at *
  generalize w7.heap.size = br at *
  have CS := Lib.hid (fun W (m : Below W8.heap.size W8 W) => show (W.cell? ⟨bp, 0, none⟩ = some (.int .u32 167772161) ∧ W.cell? ⟨bp, 1, none⟩ = some (.int .u32 167772162) ∧ W.cell? ⟨bp, 2, none⟩ = some (.int .u16 1000) ∧ W.cell? ⟨bp, 3, none⟩ = some (.int .u16 80) ∧ W.cell? ⟨bp, 4, none⟩ = some (.int .u8 2) ∧ W.cell? ⟨bp, 5, none⟩ = some (.slice A3 40 c3)) ∧ (W.cell? ⟨bq, 0, none⟩ = some (.int .u32 0) ∧ W.cell? ⟨bq, 1, none⟩ = some (.int .u32 0) ∧ W.cell? ⟨bq, 2, none⟩ = some (.int .u16 0) ∧ W.cell? ⟨bq, 3, none⟩ = some (.int .u16 0) ∧ W.cell? ⟨bq, 4, none⟩ = some (.int .u8 0) ∧ W.cell? ⟨bq, 5, none⟩ = some (.slice none 0 0)) from
    ⟨pk_cells _ _ _ _ _ _ _ _ ((m.block _ (Array.getElem?_eq_some_iff.1 bP8).1).trans bP8), pk_cells _ _ _ _ _ _ _ _ ((m.block _ (Array.getElem?_eq_some_iff.1 bQ8).1).trans bQ8)⟩)
  have RK := Lib.hid (fun W (m : Below W8.heap.size W8 W) => (RP8.out.below m).more m.size)
  have RBK := Lib.hid (fun W (m : Below W8.heap.size W8 W) => RB.out W (k8.trans (m.mono k8.size)))
  have K2 := Lib.hid (fun W (m : Below W8.heap.size W8 W) => show Calls Tryd.prog 13 #[.slice A3 40 c3, .slice (some ⟨b2, off2, none⟩) 40 c2] W fun e w' => e = .returned (.bool true) ∧ W = w' from by
    have h := law5Same_any A3 40 c3 kex (some ⟨b2, off2, none⟩) 40 c2 kex _ _ W (RK.out W m) kex_length (RBK.out W m) kex_length
    rwa [show eqB kex kex = true from eqB_true.2 rfl] at h)
  have K3 := Lib.hid (fun W => show Calls Tryd.prog 14 #[.agg #[.int .u32 167772161, .int .u32 167772162, .int .u16 1000, .int .u16 80, .int .u8 2, .slice A3 40 c3]] W fun e w' => e = .returned (.bool true) ∧ Below W.heap.size W w' from by
    have h := pkSyn_any 167772161 167772162 1000 80 2 A3 40 c3 (by decide) W
    rwa [show syB 2 = true by decide] at h)
  have K4 := Lib.hid (fun W => show Calls Tryd.prog 16 #[.agg #[.int .u32 167772161, .int .u32 167772162, .int .u16 1000, .int .u16 80, .int .u8 2, .slice A3 40 c3]] W fun e w' => e = .returned (.bool false) ∧ Below W.heap.size W w' from by
    have h := pkCloses_any 167772161 167772162 1000 80 2 A3 40 c3 (by decide) W
    rwa [show clB 2 = false by decide] at h)
  have K5 := Lib.hid (fun W => show Calls Tryd.prog 16 #[.agg #[.int .u32 0, .int .u32 0, .int .u16 0, .int .u16 0, .int .u8 6, .slice none 0 0]] W fun e w' => e = .returned (.bool true) ∧ Below W.heap.size W w' from by
    have h := pkCloses_any 0 0 0 0 6 none 0 0 (by decide) W
    rwa [show clB 6 = true by decide] at h)
  have K6 := Lib.hid (fun W => show Calls Tryd.prog 14 #[.agg #[.int .u32 0, .int .u32 0, .int .u16 0, .int .u16 0, .int .u8 6, .slice none 0 0]] W fun e w' => e = .returned (.bool false) ∧ Below W.heap.size W w' from by
    have h := pkSyn_any 0 0 0 0 6 none 0 0 (by decide) W
    rwa [show syB 6 = false by decide] at h)
  have K7 := Lib.hid (fun W (m : Below W8.heap.size W8 W) => pkOwn_any 167772161 167772162 1000 80 2 A3 40 c3 kex W (RK.out W m) kex_length HA3.out (by decide))
  have K8 := Lib.hid (fun W (m : Below W8.heap.size W8 W) (A : Option Addr) (c : Nat) (R : Row .u8 W.heap.size W A kex) => show Calls Tryd.prog 18 #[.agg #[.int .u32 167772161, .int .u32 167772162, .int .u16 1000, .int .u16 80, .int .u8 2, .slice A 40 c], .agg #[.int .u32 167772161, .int .u32 167772162, .int .u16 1000, .int .u16 80, .int .u8 2, .slice A3 40 c3]] W fun e w' => e = .returned (.bool true) ∧ Below W.heap.size W w' from by
    have h := pkSame_any 167772161 167772162 1000 80 2 A 40 c 167772161 167772162 1000 80 2 A3 40 c3 kex kex _ _ W (Nat.le_refl _) (Nat.le_refl _) R kex_length (RK.out W m) kex_length
    rwa [show pkB 167772161 167772162 1000 80 2 kex 167772161 167772162 1000 80 2 kex = true by unfold pkB; rw [eqU_same, eqB_true.2 rfl]; rfl] at h)
  have K9 := Lib.hid (fun W (m : Below W8.heap.size W8 W) => show Calls Tryd.prog 18 #[.agg #[.int .u32 167772161, .int .u32 167772162, .int .u16 1000, .int .u16 80, .int .u8 2, .slice A3 40 c3], .agg #[.int .u32 0, .int .u32 0, .int .u16 0, .int .u16 0, .int .u8 0, .slice none 0 0]] W fun e w' => e = .returned (.bool false) ∧ Below W.heap.size W w' from by
    have h := pkSame_any 167772161 167772162 1000 80 2 A3 40 c3 0 0 0 0 0 none 0 0 kex [] _ _ W (Nat.le_refl _) (Nat.le_refl _) (RK.out W m) kex_length (Row.nil _ W.heap.size _ _) rfl
    rwa [show pkB 167772161 167772162 1000 80 2 kex 0 0 0 0 0 [] = false by unfold pkB; rw [show eqU 167772161 167772162 1000 80 0 0 0 0 = false by decide]; rfl] at h)
  have n0 := (Below.refl W8.heap.size W8).drew
  clear bP8 bQ8 k8 RP8 RB hm39 hc39 hp3 HA3
  simp only [List.append]
  go_region_held3 (fun W => (W.cell? ⟨bp, 0, none⟩ = some (.int .u32 167772161) ∧ W.cell? ⟨bp, 1, none⟩ = some (.int .u32 167772162) ∧ W.cell? ⟨bp, 2, none⟩ = some (.int .u16 1000) ∧ W.cell? ⟨bp, 3, none⟩ = some (.int .u16 80) ∧ W.cell? ⟨bp, 4, none⟩ = some (.int .u8 2) ∧ W.cell? ⟨bp, 5, none⟩ = some (.slice A3 40 c3)) ∧ (W.cell? ⟨bq, 0, none⟩ = some (.int .u32 0) ∧ W.cell? ⟨bq, 1, none⟩ = some (.int .u32 0) ∧ W.cell? ⟨bq, 2, none⟩ = some (.int .u16 0) ∧ W.cell? ⟨bq, 3, none⟩ = some (.int .u16 0) ∧ W.cell? ⟨bq, 4, none⟩ = some (.int .u8 0) ∧ W.cell? ⟨bq, 5, none⟩ = some (.slice none 0 0)))
    (first | with_reducible exact CS.out _ n9 | with_reducible exact CS.out _ n8 | with_reducible exact CS.out _ n7 | with_reducible exact CS.out _ n6 | with_reducible exact CS.out _ n5 | with_reducible exact CS.out _ n4 | with_reducible exact CS.out _ n3 | with_reducible exact CS.out _ n1 | with_reducible exact CS.out _ n0)
    (first
      | (go_at_call 22; (with_reducible refine (kone_any W8.drew).mono ?_); rintro e v1 ⟨rfl, j1⟩; have n1 := n0.trans (j1.mono n0.size))
      | (go_at_call 13; (with_reducible refine (K2.out v1 n1).mono ?_); rintro e v2 ⟨rfl, rfl⟩)
      | (go_at_call 14; (with_reducible refine (K3.out v1).mono ?_); rintro e v3 ⟨rfl, j3⟩; have n3 := n1.trans (j3.mono n1.size))
      | (go_at_call 16; (with_reducible refine (K4.out v3).mono ?_); rintro e v4 ⟨rfl, j4⟩; have n4 := n3.trans (j4.mono n3.size))
      | (go_at_call 16; (with_reducible refine (K5.out v4).mono ?_); rintro e v5 ⟨rfl, j5⟩; have n5 := n4.trans (j5.mono n4.size))
      | (go_at_call 14; (with_reducible refine (K6.out v5).mono ?_); rintro e v6 ⟨rfl, j6⟩; have n6 := n5.trans (j6.mono n5.size))
      | (go_at_call 19; (with_reducible refine (K7.out v6 n6).mono ?_); rintro e v7 ⟨A7, c7, rfl, R7, j7⟩; have n7 := n6.trans (j7.mono n6.size))
      | (go_at_call 18; (with_reducible refine (K8.out v7 n7 A7 c7 R7).mono ?_); rintro e v8 ⟨rfl, j8⟩; have n8 := n7.trans (j8.mono n7.size))
      | (go_at_call 18; (with_reducible refine (K9.out v8 n8).mono ?_); rintro e v9 ⟨rfl, j9⟩; have n9 := n8.trans (j9.mono n8.size)))
  go_wp2
  go_ret
  exact ⟨rfl, L8.trans (n9.mono L8.size)⟩
end Go.Proofs.YtnncmcfonkhckaaDoor
