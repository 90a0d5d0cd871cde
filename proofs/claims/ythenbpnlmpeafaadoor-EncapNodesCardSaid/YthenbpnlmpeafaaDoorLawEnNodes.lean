/- 'handfastlaw07.EncapNodes' returns true at every node and address, and leaves what lay as it lay. -/
import Derived.Test.YthenbpnlmpeafaaDoorEnW
import Derived.Test.YthenbpnlmpeafaaDoorEnM
import Derived.Test.YthenbpnlmpeafaaDoorEnL
namespace Go.Proofs.YthenbpnlmpeafaaDoor
open Go.RowKit Go.Shelf
open SumM

theorem nod_bits : ∀ u ∈ allN, (adr u / 16777216 != 10) = false ∧ (bits .and .u32 (adr u / 65536) 255 != 0) = false ∧ (bits .and .u32 (adr u / 256) 255 != u.1 % 4294967296) = false ∧ (bits .and .u32 (adr u / 256) 255 != u.1) = false ∧ (bits .and .u32 (adr u) 255 != u.2 % 4294967296) = false ∧ u.1 % 4294967296 = u.1 ∧ u.2 % 4294967296 = u.2 := by decide +kernel
def hasN (k : Nat) (ad : Int) : Bool := (allN.take k).any fun u => adr u == ad
def isN (k : Nat) (u : Nod) : Bool := (allN.take k).any fun v => eqD v u

theorem isN_succ (k : Nat) (hk : k < allN.length) (u : Nod) : isN (k + 1) u = (isN k u || eqD allN[k] u) := by
  unfold isN
  rw [List.take_add_one, List.any_append, List.getElem?_eq_getElem hk]
  simp
theorem hasN_succ (k : Nat) (hk : k < allN.length) (a : Int) : hasN (k + 1) a = (hasN k a || (adr allN[k] == a)) := by
  unfold hasN
  rw [List.take_add_one, List.any_append, List.getElem?_eq_getElem hk]
  simp
theorem isN_all (u : Nod) : isN 10 u = isNod u := by
  rw [Bool.eq_iff_iff, isNod_mem]
  simp [isN, List.any_eq_true, eqD_iff, show allN.take 10 = allN from rfl]
theorem hasN_all (a : Int) : hasN 10 a = nodB a := by
  rw [Bool.eq_iff_iff]
  unfold hasN nodB nodAt
  rw [show allN.take 10 = allN from rfl, List.find?_isSome, List.any_eq_true]

set_option maxRecDepth 100000 in
set_option maxHeartbeats 16000000 in
theorem eNodes_walk (nk ni : Int) (ad : Int) (w : World) (hT : Wid w ∧ 0 < w.heap.size) (HN0 : IsNd nk ni) (ha0 : (Lit.int .u32 ad).wf = true) :
    Calls Tryd.prog 6 #[.agg #[.int .u8 nk, .int .i64 ni], .int .u32 ad] w fun e w' => e = .returned (.bool true) ∧ Below w.heap.size w w' := by
  have ha := wf_u32.1 ha0
  have hnk := HN0.hk
  have hni := HN0.hi
  have bN := heap_alloc_new w (.cells #[.int .u8 nk, .int .i64 ni] 23)
  have L0 := (Below.refl w.heap.size w).alloc (Nat.le_refl _) (.cells #[.int .u8 nk, .int .i64 ni] 23)
  have TT := Lib.hid (fun W (m : Below w.heap.size w W) => And.intro (hT.1.below hT.2 m) (Nat.lt_of_lt_of_le hT.2 m.size))
  have TW := Lib.hid (fun W (m : Below w.heap.size w W) => ewakes_any W (TT.out W m).2 (TT.out W m).1)
  have HA := Lib.hid (And.intro ha (And.intro hnk hni))
  clear ha0 ha hT hnk hni HN0
  go_enter Tryd.func6, Tryd.ntmps6
  go_upto_region 1 with (fail)
  generalize w.alloc (.cells #[.int .u8 nk, .int .i64 ni] 23) = W0 at *
  go_wp2_with (go_at_call 20; refine (eNodes_any _).mono ?_; rintro e w1 ⟨A, c, rfl, hc1, hc2, hr, m1⟩)
  have bN1 := (m1.block _ (Array.getElem?_eq_some_iff.1 bN).1).trans bN
  have L1 := L0.trans (m1.mono L0.size)
  obtain ⟨b, off, rfl, hb, _⟩ := hr (by decide)
  have HR := Lib.hid hr
  have hcc : (10 : Int) ≤ (c : Int) := by omega
  clear hr m1 bN L0 hc1 hc2
  have HL1 := Lib.hid L1
  have HN1 := Lib.hid bN1
  have HLT := Lib.hid (And.intro hb (Array.getElem?_eq_some_iff.1 bN1).1)
  clear L1 bN1 hb
  go_loopw [6, 7, 8] (fun p q i wr => ∃ k : Nat, k ≤ 10 ∧ i = .int .i64 k ∧ p = .bool (isN k (nk, ni)) ∧ q = .bool (hasN k ad) ∧ Below w1.heap.size w1 wr) (fun _ _ i _ => 10 - (intOf i).toNat)
  case atStart => exact ⟨0, by omega, rfl, rfl, rfl, Below.refl _ _⟩
  case round =>
    obtain ⟨k, hk, rfl, rfl, rfl, hB⟩ := hrel
    by_cases hlt : k < 10
    · have hka : k < allN.length := hlt
      obtain ⟨u, hu⟩ : ∃ u, allN[k] = u := ⟨_, rfl⟩
      have hmem : u ∈ allN := hu ▸ List.getElem_mem hka
      obtain ⟨u1, u2⟩ := u
      have CL := Lib.hid (fun W (m : Below w1.heap.size w1 W) => show W.cell? ⟨b, off + k * 2, none⟩ = some (.int .u8 u1) ∧ W.cell? ⟨b, off + k * 2 + 1, none⟩ = some (.int .i64 u2) ∧ W.cell? ⟨w.heap.size, 0, none⟩ = some (.int .u8 nk) ∧ W.cell? ⟨w.heap.size, 1, none⟩ = some (.int .i64 ni) from by
        obtain ⟨b', off', e, _, hc⟩ := (HR.out.below m) (by decide)
        cases e
        have h0 := hc k hka 0 (.int .u8 u1) (by rw [hu]; rfl)
        have h1 := hc k hka 1 (.int .i64 u2) (by rw [hu]; rfl)
        have hn := nod_cells _ _ ((m.block _ HLT.out.2).trans HN1.out)
        exact ⟨h0, h1, hn⟩)
      have ht : isNod (u1, u2) = true := isNod_mem.2 hmem
      have hnv := nodV_adr ht
      obtain ⟨av, hav⟩ : ∃ x, adr (u1, u2) = x := ⟨_, rfl⟩
      have hrg := isNod_iff.1 ht
      have hal := adr_all _ hmem
      rw [hav] at hnv hal
      have KA := Lib.hid (fun W => show Calls Tryd.prog 9 #[.agg #[.int .u8 u1, .int .i64 u2]] W fun e w' => e = .returned (.tuple #[.int .u32 av, .bool true]) ∧ Below W.heap.size W w' from by
        have h := eAddr_any u1 u2 (by omega) (by omega) W
        rwa [ht, show adrV (u1, u2) = av by unfold adrV; rw [if_pos ht, hav]] at h)
      have KN := Lib.hid (fun W => show Calls Tryd.prog 11 #[.int .u32 av] W fun e w' => e = .returned (.tuple #[.agg #[.int .u8 u1, .int .i64 u2], .bool true]) ∧ Below W.heap.size W w' from by
        have h := eNode_any av hal W
        rwa [hnv.1, hnv.2] at h)
      have HV := Lib.hid (show allN[k] = (u1, u2) ∧ adr (u1, u2) = av ∧ (u1, u2) ∈ allN from ⟨hu, hav, hmem⟩)
      have HB := Lib.hid hB
      have hk12 : (k : Int) < 10 := by omega
      clear hu hmem ht hnv hav hrg hal hB
      obtain ⟨c0, c1, n0, n1⟩ := CL.out _ HB.out
      go_wp2_with (fail)
      refine (KA.out wr).mono ?_
      rintro e w2 ⟨rfl, m2⟩
      have H2 := Lib.hid (HB.out.trans (m2.mono HB.out.size))
      clear c0 c1 n0 n1 m2
      go_wp2_with (fail)
      refine (KN.out w2).mono ?_
      rintro e w3 ⟨rfl, m3⟩
      have H3 := Lib.hid (H2.out.trans (m3.mono H2.out.size))
      have bM := heap_alloc_new w3 (.cells #[.int .u8 u1, .int .i64 u2] 23)
      have H4 := Lib.hid (H3.out.alloc H3.out.size (.cells #[.int .u8 u1, .int .i64 u2] 23))
      clear m3
      go_upto_region 8 with (fail)
      generalize w3.alloc (.cells #[.int .u8 u1, .int .i64 u2] 23) = W4 at *
      generalize w3.heap.size = bm at *
      obtain ⟨c0, c1, n0, n1⟩ := CL.out _ H4.out
      obtain ⟨x0, x1⟩ := nod_cells _ _ bM
      obtain ⟨t1, t2, t3, t3', t4, t5, t6⟩ := nod_bits _ HV.out.2.2
      rw [HV.out.2.1] at t1 t2 t3 t3' t4
      simp only at t3 t3' t4 t5 t6
      have E1 : ∀ W, (Go.binOp .neq 23 (.agg #[.int .u8 u1, .int .i64 u2]) (.agg #[.int .u8 u1, .int .i64 u2])).run Tryd.prog W = .ok (.bool false) W := fun W => by go_simp
      go_quiet (fail)
      go_wp2
      have H5 := below_dr H4.out nq
      have HK := Lib.hid (show isN (k + 1) (nk, ni) = (isN k (nk, ni) || eqD (u1, u2) (nk, ni)) ∧ hasN (k + 1) ad = (hasN k ad || (av == ad)) from by
        rw [isN_succ k hka, hasN_succ k hka, HV.out.1, HV.out.2.1]
        exact ⟨rfl, rfl⟩)
      clear c0 c1 n0 n1 t1 t2 t3 t3' t4 t5 t6 E1 x0 x1 bM
      generalize W4.drewN nq = W5 at *
      obtain ⟨c0, c1, n0, n1⟩ := CL.out _ H5
      have H5' := Lib.hid H5
      have E2 := fun W => run_eqD u1 u2 nk ni W
      generalize isN k (nk, ni) = p at *
      generalize hasN k ad = q at *
      generalize eqD (u1, u2) (nk, ni) = eb at *
      obtain ⟨ab, hab⟩ : ∃ x, (av == ad) = x := ⟨_, rfl⟩
      rw [hab] at HK
      clear H5
      cases p <;> cases q
      all_goals
        go_quiet (fail)
        go_wp2
        go_roundw
        case measure => simp [intOf]; omega
        case rel => exact ⟨k + 1, by omega, by go_num, by rw [HK.out.1]; rfl, by rw [HK.out.2]; rfl, below_dr H5'.out _⟩
    · obtain rfl : k = 10 := by omega
      have hn := (hB.block _ HLT.out.2).trans HN1.out
      have L2 := HL1.out.trans (hB.mono HL1.out.size)
      obtain ⟨av, hav⟩ : ∃ x, adrV (nk, ni) = x := ⟨_, rfl⟩
      obtain ⟨⟨m0, m1⟩, hm⟩ : ∃ x, nodV ad = x := ⟨_, rfl⟩
      rw [isN_all, hasN_all]
      obtain ⟨p, hp⟩ : ∃ x, isNod (nk, ni) = x := ⟨_, rfl⟩
      obtain ⟨q, hq⟩ : ∃ x, nodB ad = x := ⟨_, rfl⟩
      rw [hp, hq]
      have KA := Lib.hid (fun W => show Calls Tryd.prog 9 #[.agg #[.int .u8 nk, .int .i64 ni]] W fun e w' => e = .returned (.tuple #[.int .u32 av, .bool p]) ∧ Below W.heap.size W w' from by
        have h := eAddr_any nk ni HA.out.2.1 HA.out.2.2 W
        rwa [hp, hav] at h)
      have KN := Lib.hid (fun W => show Calls Tryd.prog 11 #[.int .u32 ad] W fun e w' => e = .returned (.tuple #[.agg #[.int .u8 m0, .int .i64 m1], .bool q]) ∧ Below W.heap.size W w' from by
        have h := eNode_any ad HA.out.1 W
        rwa [hm, hq] at h)
      have hz : p = false → av = 0 := fun h => by rw [← hav]; unfold adrV; rw [if_neg (by rw [hp, h]; decide)]
      have hz2 : q = false → m0 = 0 ∧ m1 = 0 := fun h => by
        have h2 : nodAt ad = none := by
          rw [← hq] at h
          unfold nodB at h
          simpa using h
        unfold nodV at hm
        rw [h2] at hm
        cases hm
        exact ⟨rfl, rfl⟩
      obtain ⟨n0, n1⟩ := nod_cells _ _ hn
      clear hn hav hm hp hq hB hlt hk
      go_wp2_with (fail)
      refine (KA.out wr).mono ?_
      rintro e w2 ⟨rfl, k2⟩
      have L3 := L2.trans (k2.mono L2.size)
      clear n0 n1 L2 k2
      go_wp2_with (fail)
      refine (KN.out w2).mono ?_
      rintro e w3 ⟨rfl, k3⟩
      have L4 := L3.trans (k3.mono L3.size)
      have bM := heap_alloc_new w3 (.cells #[.int .u8 m0, .int .i64 m1] 23)
      have L5 := L4.alloc L4.size (.cells #[.int .u8 m0, .int .i64 m1] 23)
      clear L3 L4 k3
      go_upto_region 13 with (fail)
      generalize w3.alloc (.cells #[.int .u8 m0, .int .i64 m1] 23) = W5 at *
      generalize w3.heap.size = bm at *
      have HL5 := Lib.hid L5
      have K4 := Lib.hid (fun W (m : Below W5.heap.size W5 W) => TW.out W (HL5.out.trans (m.mono HL5.out.size)))
      have n0 := Below.refl W5.heap.size W5
      obtain ⟨x0, x1⟩ := nod_cells _ _ bM
      have E3 : ∀ W, (Go.binOp .eql 23 (.agg #[.int .u8 0, .int .i64 0]) (.agg #[.int .u8 0, .int .i64 0])).run Tryd.prog W = .ok (.bool true) W := fun W => by go_simp
      clear L5 bM TW
      cases q
      · obtain ⟨rfl, rfl⟩ := hz2 rfl
        clear hz2
        cases p
        · obtain rfl := hz rfl
          clear hz
          go_wp2_with (go_at_call 8; (with_reducible refine (K4.out _ n0).mono ?_); rintro e v4 ⟨rfl, m4⟩)
          go_ret
          exact ⟨rfl, HL5.out.trans (m4.mono HL5.out.size)⟩
        · clear hz
          go_wp2_with (go_at_call 8; (with_reducible refine (K4.out _ n0).mono ?_); rintro e v4 ⟨rfl, m4⟩)
          go_ret
          exact ⟨rfl, HL5.out.trans (m4.mono HL5.out.size)⟩
      · clear hz2
        cases p
        · obtain rfl := hz rfl
          clear hz
          go_wp2_with (go_at_call 8; (with_reducible refine (K4.out _ n0).mono ?_); rintro e v4 ⟨rfl, m4⟩)
          go_ret
          exact ⟨rfl, HL5.out.trans (m4.mono HL5.out.size)⟩
        · clear hz
          go_wp2_with (go_at_call 8; (with_reducible refine (K4.out _ n0).mono ?_); rintro e v4 ⟨rfl, m4⟩)
          go_ret
          exact ⟨rfl, HL5.out.trans (m4.mono HL5.out.size)⟩
end Go.Proofs.YthenbpnlmpeafaaDoor
