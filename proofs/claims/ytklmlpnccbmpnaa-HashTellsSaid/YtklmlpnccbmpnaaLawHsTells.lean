/- 'handfastlaw08.HashTells' returns true at everything that came in, and leaves what lay as it lay. -/
import Derived.Test.YtklmlpnccbmpnaaHsW
namespace Go.Proofs.Ytklmlpnccbmpnaa
open Go.RowKit Go.Shelf
open SumM

theorem own_aside {w w' : World} {base B : Nat} {e : TypeId} {v : Value} {n : Nat} {xs : List Value} (h : w.ownsRow base e 1 v n xs) (hg : w.grownBy w' (some B)) (hB : B < base) : w'.ownsRow base e 1 v n xs := by
  refine h.kept hg ?_
  rcases h.2 with ⟨h1, _⟩ | ⟨g, cap, cur, h1, h2, _⟩
  · subst h1
    exact .inr (by simp [Value.ownBlock])
  · subst h1
    exact .inr (by simp [Value.ownBlock]; omega)

set_option maxRecDepth 100000 in
set_option maxHeartbeats 16000000 in
theorem hTells_walk (c s : Int) (a2 : Option Addr) (len2 cap2 : Nat) (z2 : List Int) (ts td tp tq : Int) (ts' td' tp' tq' : Int) (a5 : Option Addr) (len5 cap5 : Nat) (us : List Tup) (w : World) (hc0 : (Lit.int .u8 c).wf = true) (hs0 : (Lit.int .u8 s).wf = true) (w2 : IsRow .u8 w a2 len2 cap2 z2) (H : UNums ts td tp tq) (H' : UNums ts' td' tp' tq') (w5 : IsTRow w a5 len5 cap5 us) :
    Calls Try.prog 3 #[.int .u8 c, .int .u8 s, .slice a2 len2 cap2, .agg #[.int .u32 ts, .int .u32 td, .int .u16 tp, .int .u16 tq], .agg #[.int .u32 ts', .int .u32 td', .int .u16 tp', .int .u16 tq'], .slice a5 len5 cap5] w fun e w' => e = .returned (.bool true) ∧ Below w.heap.size w w' := by
  have hc := wf_u8.1 hc0
  have hs := wf_u8.1 hs0
  obtain ⟨hrz, hzl, _, hlz, hmz⟩ := w2.row
  obtain ⟨hR, hul, _, hlc, hmc⟩ := w5
  generalize z2.take len2 = bs at *
  unfold maxLen at hmz hmc
  have bO := heap_alloc_new (w.alloc (.cells #[.int .u32 ts, .int .u32 td, .int .u16 tp, .int .u16 tq] 26)) (.cells #[.int .u32 ts', .int .u32 td', .int .u16 tp', .int .u16 tq'] 26)
  rw [World.size_alloc] at bO
  have bH := (Below.heap_alloc (w.alloc (.cells #[.int .u32 ts, .int .u32 td, .int .u16 tp, .int .u16 tq] 26)) (.cells #[.int .u32 ts', .int .u32 td', .int .u16 tp', .int .u16 tq'] 26) w.heap.size (by simp)).trans (heap_alloc_new w (.cells #[.int .u32 ts, .int .u32 td, .int .u16 tp, .int .u16 tq] 26))
  have L0 := ((Below.refl w.heap.size w).alloc (Nat.le_refl _) (.cells #[.int .u32 ts, .int .u32 td, .int .u16 tp, .int .u16 tq] 26)).alloc (by simp) (.cells #[.int .u32 ts', .int .u32 td', .int .u16 tp', .int .u16 tq'] 26)
  have HH := Lib.hid H
  have HH' := Lib.hid H'
  have RB := Lib.hid (fun W (m : Below w.heap.size w W) => (hrz.below m).more m.size)
  have RT := Lib.hid (fun W (m : Below w.heap.size w W) => hR.below m)
  have HL := Lib.hid (And.intro hzl hul)
  have HU := Lib.hid hR.1
  have HS := Lib.hid (And.intro hc hs)
  clear H H' hc0 hs0 w2 hrz hzl hR hul hc hs
  obtain ⟨q0, q1, q2, q3⟩ := tup_cells _ _ _ _ bH
  obtain ⟨z0, z1, z2', z3⟩ := tup_cells _ _ _ _ bO
  by_cases hbig : 100 < len2
  · have p1 : decide ((100 : Int) < (len2 : Int)) = true := decide_eq_true (by omega)
    clear bO bH q0 q1 q2 q3 z0 z1 z2' z3
    go_enter Try.func3, Try.ntmps3
    go_upto_region 1 with (fail)
    generalize (w.alloc (.cells #[.int .u32 ts, .int .u32 td, .int .u16 tp, .int .u16 tq] 26)).alloc (.cells #[.int .u32 ts', .int .u32 td', .int .u16 tp', .int .u16 tq'] 26) = W0 at *
    go_wp2_with (go_at_call 9; (with_reducible refine (hwakes_any _).mono ?_); rintro e w3 ⟨rfl, m3⟩)
    go_ret
    exact ⟨rfl, L0.trans (m3.mono L0.size)⟩
  have p1 : decide ((100 : Int) < (len2 : Int)) = false := decide_eq_false (by omega)
  by_cases hbig2 : 40 < len5
  · have p2 : decide ((40 : Int) < (len5 : Int)) = true := decide_eq_true (by omega)
    clear bO bH q0 q1 q2 q3 z0 z1 z2' z3
    go_enter Try.func3, Try.ntmps3
    go_upto_region 1 with (fail)
    generalize (w.alloc (.cells #[.int .u32 ts, .int .u32 td, .int .u16 tp, .int .u16 tq] 26)).alloc (.cells #[.int .u32 ts', .int .u32 td', .int .u16 tp', .int .u16 tq'] 26) = W0 at *
    go_wp2_with (go_at_call 9; (with_reducible refine (hwakes_any _).mono ?_); rintro e w3 ⟨rfl, m3⟩)
    go_ret
    exact ⟨rfl, L0.trans (m3.mono L0.size)⟩
  have p2 : decide ((40 : Int) < (len5 : Int)) = false := decide_eq_false (by omega)
  have hl5 : len5 ≤ 40 := by omega
  have hl2 : len2 ≤ 100 := by omega
  go_enter Try.func3, Try.ntmps3
  go_upto_region 1 with (fail)
  generalize (w.alloc (.cells #[.int .u32 ts, .int .u32 td, .int .u16 tp, .int .u16 tq] 26)).alloc (.cells #[.int .u32 ts', .int .u32 td', .int .u16 tp', .int .u16 tq'] 26) = W0 at *
  clear q0 q1 q2 q3 z0 z1 z2' z3 hbig hbig2
  go_wp2_with (fail)
  refine (hNew_any W0).mono ?_
  rintro e w1 ⟨B, rfl, hB, hi1, m1⟩
  have bH1 := (m1.block _ (Array.getElem?_eq_some_iff.1 bH).1).trans bH
  have bO1 := (m1.block _ (Array.getElem?_eq_some_iff.1 bO).1).trans bO
  have hBH := (Array.getElem?_eq_some_iff.1 bH).1
  have hBO := (Array.getElem?_eq_some_iff.1 bO).1
  have hBw : w.heap.size ≤ B := by have := L0.size; omega
  have L1 := L0.trans (m1.mono L0.size)
  clear m1 bH bO L0
  have RT1 := (RT.out w1 L1).more hBw
  go_wp2_with (fail)
  refine (hrAll_any B 0 a5 len5 cap5 us w1 RT1 HL.out.2 (by omega) hi1).mono ?_
  rintro e w2 ⟨A, cA, rfl, OA, hi2, m2, _⟩
  have L2 := L1.trans (m2.mono hBw)
  have bH2 := (m2.block _ (by omega)).trans bH1
  have bO2 := (m2.block _ (by omega)).trans bO1
  have CH := Lib.hid (fun W (m : Below B w2 W) => tup_cells _ _ _ _ ((m.block _ (by omega)).trans bH2))
  have CB := Lib.hid (fun W (m : Below B w2 W) => And.intro ((m.block _ (by omega : w.heap.size < B)).trans bH2) ((m.block _ (by omega : w.heap.size + 1 < B)).trans bO2))
  have hsz := m2.size
  have hB1 : B < w1.heap.size := hi1.size
  have hB2 : B < w2.heap.size := by have := hi1.size; omega
  have OA2 := Lib.hid (show w2.drew.ownsRow _ _ _ _ _ _ from OA)
  have pl : ((len5 : Int) != (len5 : Int)) = false := by simp
  have n0 := (Below.refl B w2).drew
  clear bH1 bO1 hi1 m2 RT1 L1 OA bH2 bO2
  go_upto_region 5 with (fail)
  go_cut [54] (fun sx wx => sx = .bool false ∧ Below B w2 wx ∧ wx.ownsRow w1.heap.size 3 1 (.slice A len5 cA) len5 (us.map fun u => Value.int .i64 (ofU u.1 u.2.1 u.2.2.1 u.2.2.2)))
  case first =>
    rcases Nat.lt_trichotomy len5 1 with hz | hz | hz
    · obtain rfl : len5 = 0 := by omega
      rw [if_pos rfl] at hi2
      go_region_held3 (fun W => W.cell? ⟨w.heap.size, 0, none⟩ = some (.int .u32 ts) ∧ W.cell? ⟨w.heap.size, 1, none⟩ = some (.int .u32 td) ∧ W.cell? ⟨w.heap.size, 2, none⟩ = some (.int .u16 tp) ∧ W.cell? ⟨w.heap.size, 3, none⟩ = some (.int .u16 tq))
        (first | with_reducible exact CH.out _ n4 | with_reducible exact CH.out _ n3 | with_reducible exact CH.out _ n2 | with_reducible exact CH.out _ n1 | with_reducible exact CH.out _ n0)
        (first
          | (go_at_call 12; (with_reducible refine (hrMade_any B 0 w2.drew (hi2.mono (Below.refl _ _).drew)).mono ?_); rintro e v1 ⟨rfl, hi3, j1, g1⟩; have n1 := n0.trans j1; have s1 := n1.size; have o1 := Lib.hid (own_aside OA2.out g1 hB1))
          | (go_at_call 13; (with_reducible refine (hrOf_any B 0 ts td tp tq HH.out v1 hi3).mono ?_); rintro e v2 ⟨rfl, hi4, j2, g2⟩; have n2 := n1.trans j2; have s2 := n2.size; have o2 := Lib.hid (own_aside o1.out g2 hB1))
          | (go_at_call 14; (with_reducible refine (r8Of_any ts td tp tq HH.out v2).mono ?_); rintro e v3 ⟨rfl, j3⟩; have hi5 := hi4.mono j3; have o3 := Lib.hid (own_below o2.out j3); have n3 := n2.trans (j3.mono (Nat.le_trans (Nat.le_of_lt hB2) s2)))
          | (go_at_call 12; (with_reducible refine (hrMade_any B 1 v3 hi5).mono ?_); rintro e v4 ⟨rfl, hi6, j4, g4⟩; have n4 := n3.trans j4; have o4 := Lib.hid (own_aside o3.out g4 hB1)))
      all_goals (go_wp2_with fail; go_meet; exact ⟨rfl, n4, o4.out⟩)
    · subst hz
      rw [if_neg (by omega)] at hi2
      go_region_held3 (fun W => W.cell? ⟨w.heap.size, 0, none⟩ = some (.int .u32 ts) ∧ W.cell? ⟨w.heap.size, 1, none⟩ = some (.int .u32 td) ∧ W.cell? ⟨w.heap.size, 2, none⟩ = some (.int .u16 tp) ∧ W.cell? ⟨w.heap.size, 3, none⟩ = some (.int .u16 tq))
        (first | with_reducible exact CH.out _ n4 | with_reducible exact CH.out _ n3 | with_reducible exact CH.out _ n2 | with_reducible exact CH.out _ n1 | with_reducible exact CH.out _ n0)
        (first
          | (go_at_call 12; (with_reducible refine (hrMade_any B 1 w2.drew (hi2.mono (Below.refl _ _).drew)).mono ?_); rintro e v1 ⟨rfl, hi3, j1, g1⟩; have n1 := n0.trans j1; have s1 := n1.size; have o1 := Lib.hid (own_aside OA2.out g1 hB1))
          | (go_at_call 13; (with_reducible refine (hrOf_any B 1 ts td tp tq HH.out v1 hi3).mono ?_); rintro e v2 ⟨rfl, hi4, j2, g2⟩; have n2 := n1.trans j2; have s2 := n2.size; have o2 := Lib.hid (own_aside o1.out g2 hB1))
          | (go_at_call 14; (with_reducible refine (r8Of_any ts td tp tq HH.out v2).mono ?_); rintro e v3 ⟨rfl, j3⟩; have hi5 := hi4.mono j3; have o3 := Lib.hid (own_below o2.out j3); have n3 := n2.trans (j3.mono (Nat.le_trans (Nat.le_of_lt hB2) s2)))
          | (go_at_call 12; (with_reducible refine (hrMade_any B 1 v3 hi5).mono ?_); rintro e v4 ⟨rfl, hi6, j4, g4⟩; have n4 := n3.trans j4; have o4 := Lib.hid (own_aside o3.out g4 hB1)))
      all_goals (go_wp2_with fail; go_meet; exact ⟨rfl, n4, o4.out⟩)
    · rw [if_neg (by omega)] at hi2
      have hz2 : (1 : Int) < (len5 : Int) := by omega
      go_region_held3 (fun W => W.cell? ⟨w.heap.size, 0, none⟩ = some (.int .u32 ts) ∧ W.cell? ⟨w.heap.size, 1, none⟩ = some (.int .u32 td) ∧ W.cell? ⟨w.heap.size, 2, none⟩ = some (.int .u16 tp) ∧ W.cell? ⟨w.heap.size, 3, none⟩ = some (.int .u16 tq))
        (first | with_reducible exact CH.out _ n4 | with_reducible exact CH.out _ n3 | with_reducible exact CH.out _ n2 | with_reducible exact CH.out _ n1 | with_reducible exact CH.out _ n0)
        (first
          | (go_at_call 12; (with_reducible refine (hrMade_any B 1 w2.drew (hi2.mono (Below.refl _ _).drew)).mono ?_); rintro e v1 ⟨rfl, hi3, j1, g1⟩; have n1 := n0.trans j1; have s1 := n1.size; have o1 := Lib.hid (own_aside OA2.out g1 hB1))
          | (go_at_call 13; (with_reducible refine (hrOf_any B 1 ts td tp tq HH.out v1 hi3).mono ?_); rintro e v2 ⟨rfl, hi4, j2, g2⟩; have n2 := n1.trans j2; have s2 := n2.size; have o2 := Lib.hid (own_aside o1.out g2 hB1))
          | (go_at_call 14; (with_reducible refine (r8Of_any ts td tp tq HH.out v2).mono ?_); rintro e v3 ⟨rfl, j3⟩; have hi5 := hi4.mono j3; have o3 := Lib.hid (own_below o2.out j3); have n3 := n2.trans (j3.mono (Nat.le_trans (Nat.le_of_lt hB2) s2)))
          | (go_at_call 12; (with_reducible refine (hrMade_any B 1 v3 hi5).mono ?_); rintro e v4 ⟨rfl, hi6, j4, g4⟩; have n4 := n3.trans j4; have o4 := Lib.hid (own_aside o3.out g4 hB1)))
      all_goals (go_wp2_with fail; go_meet; exact ⟨rfl, n4, o4.out⟩)
  case rest =>
    obtain ⟨rfl, nc, oc⟩ := hcut
    have LC := L2.trans (nc.mono hBw)
    have CC := Lib.hid (fun W (m : Below wc.heap.size wc W) => CB.out W (nc.trans (m.mono (Nat.le_trans (Nat.le_of_lt hB2) nc.size))))
    have OC := Lib.hid (fun W (m : Below wc.heap.size wc W) => own_below oc m)
    have hul := HL.out.2
    clear nc oc L2 OA2 hi2 CH CB n0 hB1 hB2 pl hBH hBO hsz hB
    go_wp2_with (fail)
    go_loopw [15] (fun i wr => ∃ k : Nat, k ≤ len5 ∧ i = .int .i64 k ∧ Below wc.heap.size wc wr) (fun i _ => len5 - (intOf i).toNat)
    case atStart => exact ⟨0, Nat.zero_le _, rfl, Below.refl _ _⟩
    case round =>
      obtain ⟨k, hk, rfl, L⟩ := hrel
      by_cases hlt : k < len5
      · have LR := LC.trans (L.mono LC.size)
        have RTk := RT.out wr LR
        obtain ⟨b1, off1, rfl, _, hc1⟩ := RTk.2 (by omega)
        obtain ⟨x0, x1, x2, x3⟩ := hc1 k (by omega)
        have hok : Tup.ok (us[k]?.getD tup0) := HU.out _ (by rw [List.getElem?_eq_getElem (by omega : k < us.length)]; exact List.getElem_mem _)
        have ok := OC.out wr L
        obtain ⟨g, rfl, _, _⟩ := own_addr ok (by omega)
        rw [show (us.map fun u => Value.int .i64 (ofU u.1 u.2.1 u.2.2.1 u.2.2.2)) = (us.map fun u => ofU u.1 u.2.1 u.2.2.1 u.2.2.2).map (Value.int .i64) by simp] at ok
        have xa := own_cell ok k hlt
        rw [show (us.map fun u => ofU u.1 u.2.1 u.2.2.1 u.2.2.2)[k]?.getD 0 = ofU (us[k]?.getD tup0).1 (us[k]?.getD tup0).2.1 (us[k]?.getD tup0).2.2.1 (us[k]?.getD tup0).2.2.2 by rw [List.getElem?_map, List.getElem?_eq_getElem (by omega : k < us.length)]; rfl] at xa
        have hk0 : (0 : Int) ≤ (k : Int) := by omega
        have hk12 : (k : Int) < (len5 : Int) := by omega
        clear hc1 RTk ok
        generalize us[k]?.getD tup0 = u at *
        obtain ⟨u0, u1, u2, u3⟩ := u
        have K := Lib.hid (fun W => r8Of_any u0 u1 u2 u3 hok W)
        have HLT := Lib.hid hlt
        have ne : (ofU u0 u1 u2 u3 != ofU u0 u1 u2 u3) = false := by simp
        simp only at xa
        go_upto_region 10 with (fail)
        simp only at x0 x1 x2 x3
        have CE := Lib.hid (fun W (m : Below wr.heap.size wr W) => show W.cell? ⟨b1, off1 + k * 4, none⟩ = some (.int .u32 u0) ∧ W.cell? ⟨b1, off1 + k * 4 + 1, none⟩ = some (.int .u32 u1) ∧ W.cell? ⟨b1, off1 + k * 4 + 2, none⟩ = some (.int .u16 u2) ∧ W.cell? ⟨b1, off1 + k * 4 + 3, none⟩ = some (.int .u16 u3) ∧ W.cell? ⟨g, k, none⟩ = some (.int .i64 (ofU u0 u1 u2 u3)) from
          ⟨(m.cell (p := ⟨b1, off1 + k * 4, none⟩) (by simpa using World.block_lt_of_cell? wr _ x0)).trans x0, (m.cell (p := ⟨b1, off1 + k * 4 + 1, none⟩) (by simpa using World.block_lt_of_cell? wr _ x1)).trans x1, (m.cell (p := ⟨b1, off1 + k * 4 + 2, none⟩) (by simpa using World.block_lt_of_cell? wr _ x2)).trans x2, (m.cell (p := ⟨b1, off1 + k * 4 + 3, none⟩) (by simpa using World.block_lt_of_cell? wr _ x3)).trans x3, (m.cell (p := ⟨g, k, none⟩) (by simpa using World.block_lt_of_cell? wr _ xa)).trans xa⟩)
        have n0 := (Below.refl wr.heap.size wr).drew
        clear x0 x1 x2 x3 xa hok hlt LR
        go_region_held3 (fun W => W.cell? ⟨b1, off1 + k * 4, none⟩ = some (.int .u32 u0) ∧ W.cell? ⟨b1, off1 + k * 4 + 1, none⟩ = some (.int .u32 u1) ∧ W.cell? ⟨b1, off1 + k * 4 + 2, none⟩ = some (.int .u16 u2) ∧ W.cell? ⟨b1, off1 + k * 4 + 3, none⟩ = some (.int .u16 u3) ∧ W.cell? ⟨g, k, none⟩ = some (.int .i64 (ofU u0 u1 u2 u3)))
          (first | with_reducible exact CE.out _ n1 | with_reducible exact CE.out _ n0)
          (first
            | (go_at_call 14; (with_reducible refine (K.out wr.drew).mono ?_); rintro e v1 ⟨rfl, j1⟩; have n1 := n0.trans (j1.mono n0.size)))
        all_goals
          have hlt := HLT.out
          have LN := L.trans (n1.mono L.size)
          clear CE n0 n1 j1 HLT
          go_wp2
          go_roundw
          case rel => exact ⟨k + 1, by omega, by go_num, LN⟩
          case measure => simp [intOf]; omega
      · obtain rfl : k = len5 := by omega
        clear hlt
        have hc := HS.out.1
        have hs := HS.out.2
        have RB1 := Lib.hid (fun W (m : Below wr.heap.size wr W) => RB.out W (LC.trans ((L.trans (m.mono L.size)).mono LC.size)))
        have CE := Lib.hid (fun W (m : Below wr.heap.size wr W) => CC.out W (L.trans (m.mono L.size)))
        have CT := Lib.hid (fun W (m : Below wr.heap.size wr W) => show W.cell? ⟨w.heap.size, 0, none⟩ = some (.int .u32 ts) ∧ W.cell? ⟨w.heap.size, 1, none⟩ = some (.int .u32 td) ∧ W.cell? ⟨w.heap.size, 2, none⟩ = some (.int .u16 tp) ∧ W.cell? ⟨w.heap.size, 3, none⟩ = some (.int .u16 tq) ∧ W.cell? ⟨w.heap.size + 1, 0, none⟩ = some (.int .u32 ts') ∧ W.cell? ⟨w.heap.size + 1, 1, none⟩ = some (.int .u32 td') ∧ W.cell? ⟨w.heap.size + 1, 2, none⟩ = some (.int .u16 tp') ∧ W.cell? ⟨w.heap.size + 1, 3, none⟩ = some (.int .u16 tq') from
          ⟨(tup_cells _ _ _ _ (CE.out W m).1).1, (tup_cells _ _ _ _ (CE.out W m).1).2.1, (tup_cells _ _ _ _ (CE.out W m).1).2.2.1, (tup_cells _ _ _ _ (CE.out W m).1).2.2.2, (tup_cells _ _ _ _ (CE.out W m).2).1, (tup_cells _ _ _ _ (CE.out W m).2).2.1, (tup_cells _ _ _ _ (CE.out W m).2).2.2.1, (tup_cells _ _ _ _ (CE.out W m).2).2.2.2⟩)
        have LW := Lib.hid (LC.trans (L.mono LC.size))
        have hbl := HL.out.1
        have n0 := (Below.refl wr.heap.size wr).drew
        have T1 := Lib.hid (fun W => hTurn_any c hc W)
        have T2 := Lib.hid (fun W => r8Turn_any c hc W)
        have T3 := Lib.hid (fun W => hUnturn_any c hc W)
        have T4 := Lib.hid (fun W => r8Unturn_any c hc W)
        have T5 := Lib.hid (fun W (m : Below wr.heap.size wr W) => hGo_any s hs a2 len2 cap2 _ bs W (RB1.out W m) hbl (by omega))
        have T6 := Lib.hid (fun W (m : Below wr.heap.size wr W) => r8Go_any s hs a2 len2 cap2 _ bs W (RB1.out W m) hbl (by omega))
        go_wp2_with (fail)
        clear hc hs hbl CE CC OC L LC
        go_region_held3 (fun W => W.cell? ⟨w.heap.size, 0, none⟩ = some (.int .u32 ts) ∧ W.cell? ⟨w.heap.size, 1, none⟩ = some (.int .u32 td) ∧ W.cell? ⟨w.heap.size, 2, none⟩ = some (.int .u16 tp) ∧ W.cell? ⟨w.heap.size, 3, none⟩ = some (.int .u16 tq) ∧ W.cell? ⟨w.heap.size + 1, 0, none⟩ = some (.int .u32 ts') ∧ W.cell? ⟨w.heap.size + 1, 1, none⟩ = some (.int .u32 td') ∧ W.cell? ⟨w.heap.size + 1, 2, none⟩ = some (.int .u16 tp') ∧ W.cell? ⟨w.heap.size + 1, 3, none⟩ = some (.int .u16 tq'))
          (first | with_reducible exact CT.out _ n10 | with_reducible exact CT.out _ n9 | with_reducible exact CT.out _ n8 | with_reducible exact CT.out _ n7 | with_reducible exact CT.out _ n6 | with_reducible exact CT.out _ n5 | with_reducible exact CT.out _ n4 | with_reducible exact CT.out _ n3 | with_reducible exact CT.out _ n2 | with_reducible exact CT.out _ n1 | with_reducible exact CT.out _ n0)
          (first
            | (go_at_call 15; (with_reducible refine (T1.out wr.drew).mono ?_); rintro e v1 ⟨rfl, j⟩; have n1 := n0.trans (j.mono n0.size))
            | (go_at_call 16; (with_reducible refine (T2.out v1).mono ?_); rintro e vx ⟨rfl, e8⟩; (cases e8))
            | (go_at_call 17; (with_reducible refine (T3.out v1).mono ?_); rintro e v2 ⟨rfl, j⟩; have n2 := n1.trans (j.mono n1.size))
            | (go_at_call 18; (with_reducible refine (T4.out v2).mono ?_); rintro e vx ⟨rfl, e8⟩; (cases e8))
            | (go_at_call 19; (with_reducible refine (T5.out v2 n2).mono ?_); rintro e v3 ⟨rfl, j⟩; have n3 := n2.trans (j.mono n2.size))
            | (go_at_call 20; (with_reducible refine (T6.out v3 n3).mono ?_); rintro e vx ⟨rfl, e8⟩; (cases e8))
            | (go_at_call 21; (with_reducible refine (hSum_any ts td tp tq HH.out v3).mono ?_); rintro e v4 ⟨rfl, j⟩; have n4 := n3.trans (j.mono n3.size))
            | (go_at_call 22; (with_reducible refine (r8Sum_any ts td tp tq HH.out v4).mono ?_); rintro e v5 ⟨rfl, j⟩; have n5 := n4.trans (j.mono n4.size))
            | (go_at_call 23; (with_reducible refine (hOf_any ts td tp tq HH.out v5).mono ?_); rintro e v6 ⟨rfl, j⟩; have n6 := n5.trans (j.mono n5.size))
            | (go_at_call 14; (with_reducible refine (r8Of_any ts td tp tq HH.out v6).mono ?_); rintro e v7 ⟨rfl, j⟩; have n7 := n6.trans (j.mono n6.size))
            | (go_at_call 24; (with_reducible refine (hSame_any ts td tp tq ts' td' tp' tq' HH.out HH'.out v7).mono ?_); rintro e v8 ⟨rfl, j⟩; have n8 := n7.trans (j.mono n7.size))
            | (go_at_call 25; (with_reducible refine (r8Same_any ts td tp tq ts' td' tp' tq' HH.out HH'.out v8).mono ?_); rintro e v9 ⟨rfl, j⟩; have n9 := n8.trans (j.mono n8.size))
            | (go_at_call 9; (with_reducible refine (hwakes_any v9).mono ?_); rintro e v10 ⟨rfl, j⟩; have n10 := n9.trans (j.mono n9.size)))
        all_goals
          have LF := LW.out.trans (n10.mono LW.out.size)
          go_wp2
          go_ret
          exact ⟨rfl, LF⟩
end Go.Proofs.Ytklmlpnccbmpnaa
