/- Wraps: their cells; the document's own Same, Own, Put, Take. -/
import Derived.Test.YthenbpnlmpeafaaDoorEnB
import Derived.Test.YthenbpnlmpeafaaDoorOpEq
import Derived.Test.YthenbpnlmpeafaaDoorIpMore
import Derived.Test.YthenbpnlmpeafaaDoorIpV
namespace Go.Proofs.YthenbpnlmpeafaaDoor
open Go.RowKit Go.Shelf
open SumM

theorem wr_cells {w : World} {b : Nat} (fk fi xk xi kd bu cu pv ge ti : Int) (wa : Option Addr) (wn wc : Nat) (h : w.heap[b]? = some (.cells #[.int .u8 fk, .int .i64 fi, .int .u8 xk, .int .i64 xi, .int .u8 kd, .int .u8 bu, .int .i64 cu, .int .i64 pv, .int .i64 ge, .int .i64 ti, .slice wa wn wc] 29 (0, 0))) :
    w.cell? ⟨b, 0, none⟩ = some (.int .u8 fk) ∧ w.cell? ⟨b, 1, none⟩ = some (.int .i64 fi) ∧ w.cell? ⟨b, 2, none⟩ = some (.int .u8 xk) ∧ w.cell? ⟨b, 3, none⟩ = some (.int .i64 xi) ∧
    w.cell? ⟨b, 4, none⟩ = some (.int .u8 kd) ∧ w.cell? ⟨b, 5, none⟩ = some (.int .u8 bu) ∧ w.cell? ⟨b, 6, none⟩ = some (.int .i64 cu) ∧ w.cell? ⟨b, 7, none⟩ = some (.int .i64 pv) ∧ w.cell? ⟨b, 8, none⟩ = some (.int .i64 ge) ∧ w.cell? ⟨b, 9, none⟩ = some (.int .i64 ti) ∧ w.cell? ⟨b, 10, none⟩ = some (.slice wa wn wc) := by
  refine ⟨?_, ?_, ?_, ?_, ?_, ?_, ?_, ?_, ?_, ?_, ?_⟩ <;> (rw [cell_of_row _ _ _ _ _ _ h]; rfl)

/-- Whether two wraps are the same. -/
def wrB (fk fi xk xi kd bu cu pv ge ti : Int) (zs : List Int) (fk' fi' xk' xi' kd' bu' cu' pv' ge' ti' : Int) (zs' : List Int) : Bool :=
  eqD (fk, fi) (fk', fi') && eqD (xk, xi) (xk', xi') && eqO kd bu cu pv ge ti kd' bu' cu' pv' ge' ti' && eqB zs zs'

set_option maxRecDepth 100000 in
set_option maxHeartbeats 4000000 in
theorem r7Same_any (fk fi xk xi kd bu cu pv ge ti : Int) (wa : Option Addr) (wn wc : Nat) (fk' fi' xk' xi' kd' bu' cu' pv' ge' ti' : Int) (wa' : Option Addr) (wn' wc' : Nat) (zs zs' : List Int) (B B' : Nat) (w : World) (hB : B ≤ w.heap.size) (hB' : B' ≤ w.heap.size) (hr : Row .u8 B w wa zs) (hl : zs.length = wn) (hr' : Row .u8 B' w wa' zs') (hl' : zs'.length = wn') :
    Calls Tryd.prog 18 #[.agg #[.int .u8 fk, .int .i64 fi, .int .u8 xk, .int .i64 xi, .int .u8 kd, .int .u8 bu, .int .i64 cu, .int .i64 pv, .int .i64 ge, .int .i64 ti, .slice wa wn wc], .agg #[.int .u8 fk', .int .i64 fi', .int .u8 xk', .int .i64 xi', .int .u8 kd', .int .u8 bu', .int .i64 cu', .int .i64 pv', .int .i64 ge', .int .i64 ti', .slice wa' wn' wc']] w fun e w' => e = .returned (.bool (wrB fk fi xk xi kd bu cu pv ge ti zs fk' fi' xk' xi' kd' bu' cu' pv' ge' ti' zs')) ∧ Below w.heap.size w w' := by
  have bB := heap_alloc_new (w.alloc (.cells #[.int .u8 fk, .int .i64 fi, .int .u8 xk, .int .i64 xi, .int .u8 kd, .int .u8 bu, .int .i64 cu, .int .i64 pv, .int .i64 ge, .int .i64 ti, .slice wa wn wc] 29)) (.cells #[.int .u8 fk', .int .i64 fi', .int .u8 xk', .int .i64 xi', .int .u8 kd', .int .u8 bu', .int .i64 cu', .int .i64 pv', .int .i64 ge', .int .i64 ti', .slice wa' wn' wc'] 29)
  rw [World.size_alloc] at bB
  have bA := (Below.heap_alloc (w.alloc (.cells #[.int .u8 fk, .int .i64 fi, .int .u8 xk, .int .i64 xi, .int .u8 kd, .int .u8 bu, .int .i64 cu, .int .i64 pv, .int .i64 ge, .int .i64 ti, .slice wa wn wc] 29)) (.cells #[.int .u8 fk', .int .i64 fi', .int .u8 xk', .int .i64 xi', .int .u8 kd', .int .u8 bu', .int .i64 cu', .int .i64 pv', .int .i64 ge', .int .i64 ti', .slice wa' wn' wc'] 29) w.heap.size (by simp)).trans (heap_alloc_new w (.cells #[.int .u8 fk, .int .i64 fi, .int .u8 xk, .int .i64 xi, .int .u8 kd, .int .u8 bu, .int .i64 cu, .int .i64 pv, .int .i64 ge, .int .i64 ti, .slice wa wn wc] 29))
  have L0 := ((Below.refl w.heap.size w).alloc (Nat.le_refl _) (.cells #[.int .u8 fk, .int .i64 fi, .int .u8 xk, .int .i64 xi, .int .u8 kd, .int .u8 bu, .int .i64 cu, .int .i64 pv, .int .i64 ge, .int .i64 ti, .slice wa wn wc] 29)).alloc (by simp) (.cells #[.int .u8 fk', .int .i64 fi', .int .u8 xk', .int .i64 xi', .int .u8 kd', .int .u8 bu', .int .i64 cu', .int .i64 pv', .int .i64 ge', .int .i64 ti', .slice wa' wn' wc'] 29)
  have s1 := (hr.below (L0.mono hB)).str wn wc hl
  have s2 := (hr'.below (L0.mono hB')).str wn' wc' hl'
  have HE := Lib.hid (str_eq (row_in hr) (row_in hr'))
  have E1 := fun W => run_eqD fk fi fk' fi' W
  have E2 := fun W => run_eqD xk xi xk' xi' W
  have E3 := fun W => run_eqO kd bu cu pv ge ti kd' bu' cu' pv' ge' ti' W
  obtain ⟨q0, q1, q2, q3, q4, q5, q6, q7, q8, q9, q10⟩ := wr_cells _ _ _ _ _ _ _ _ _ _ _ _ _ bA
  obtain ⟨z0, z1, z2, z3, z4, z5, z6, z7, z8, z9, z10⟩ := wr_cells _ _ _ _ _ _ _ _ _ _ _ _ _ bB
  unfold wrB
  generalize eqD (fk, fi) (fk', fi') = b1 at *
  generalize eqD (xk, xi) (xk', xi') = b2 at *
  generalize eqO kd bu cu pv ge ti kd' bu' cu' pv' ge' ti' = b3 at *
  clear hr hr' hl hl' bA bB hB hB'
  go_enter Tryd.func18, Tryd.ntmps18
  go_upto_region 1 with (fail)
  generalize (w.alloc (.cells #[.int .u8 fk, .int .i64 fi, .int .u8 xk, .int .i64 xi, .int .u8 kd, .int .u8 bu, .int .i64 cu, .int .i64 pv, .int .i64 ge, .int .i64 ti, .slice wa wn wc] 29)).alloc (.cells #[.int .u8 fk', .int .i64 fi', .int .u8 xk', .int .i64 xi', .int .u8 kd', .int .u8 bu', .int .i64 cu', .int .i64 pv', .int .i64 ge', .int .i64 ti', .slice wa' wn' wc'] 29) = W0 at *
  have H0 := Lib.hid L0
  clear L0
  cases b1
  · go_wp2
    go_ret
    exact ⟨rfl, H0.out⟩
  · cases b2
    · go_wp2
      go_ret
      exact ⟨rfl, H0.out⟩
    · cases b3
      · go_wp2
        go_ret
        exact ⟨rfl, H0.out⟩
      · go_wp2
        go_ret
        exact ⟨ret_bool (by rw [HE.out]; rfl), H0.out⟩

/-- Whether nodes and option may be; the bytes that are put; why there are none; what Put tells. -/
def enOk (fk fi xk xi kd bu cu pv ge ti : Int) : Bool := isNod (fk, fi) && isNod (xk, xi) && optOk kd bu cu pv ge ti
def enB (fk fi xk xi kd bu cu pv ge ti : Int) (zs : List Int) : List Int := putOf 0 0 0 64 4 (adr (fk, fi)) (adr (xk, xi)) 16 zs.length (optB kd bu cu pv ge ti) zs
def enY (fk fi xk xi kd bu cu pv ge ti : Int) (n : Nat) : Int := if enOk fk fi xk xi kd bu cu pv ge ti = true then (if 36 + n ≤ 65535 then 0 else 12) else 13
def enZ (fk fi xk xi kd bu cu pv ge ti : Int) (zs : List Int) : List Int := if enY fk fi xk xi kd bu cu pv ge ti zs.length = 0 then enB fk fi xk xi kd bu cu pv ge ti zs else []
def EnPutRet (fk fi xk xi kd bu cu pv ge ti : Int) (zs : List Int) (w : World) (e : Ending) (w' : World) : Prop :=
  ∃ A n c, e = .returned (.tuple #[.slice A n c, .int .u8 (enY fk fi xk xi kd bu cu pv ge ti zs.length)]) ∧ (enZ fk fi xk xi kd bu cu pv ge ti zs).length = n ∧ Row .u8 w'.heap.size w' A (enZ fk fi xk xi kd bu cu pv ge ti zs) ∧ (A = none → c = 0) ∧ n ≤ c ∧ c ≤ 9223372036854775807 ∧ Below w.heap.size w w'
theorem enPut_no {fk fi xk xi kd bu cu pv ge ti : Int} {zs : List Int} {w w' : World} {y : Int} (hy : enY fk fi xk xi kd bu cu pv ge ti zs.length = y) (h : y ≠ 0) (m : Below w.heap.size w w') : EnPutRet fk fi xk xi kd bu cu pv ge ti zs w (.returned (.tuple #[.slice none 0 0, .int .u8 y])) w' := by
  have hz : enZ fk fi xk xi kd bu cu pv ge ti zs = [] := by unfold enZ; rw [if_neg (by rw [hy]; exact h)]
  exact ⟨none, 0, 0, by rw [hy], by rw [hz]; rfl, by rw [hz]; exact Row.nil _ _ _ _, fun _ => rfl, Nat.le_refl _, by omega, m⟩

set_option maxRecDepth 100000 in
set_option maxHeartbeats 8000000 in
theorem r7Put_any (fk fi xk xi kd bu cu pv ge ti : Int) (wa : Option Addr) (wn wc : Nat) (zs : List Int) (H : ONums kd bu cu pv ge ti) (hdn : wn ≤ 281474976710600) (w : World) (hr : Row .u8 w.heap.size w wa zs) (hl : zs.length = wn) (hn : wa = none → wc = 0) :
    Calls Tryd.prog 14 #[.agg #[.int .u8 fk, .int .i64 fi, .int .u8 xk, .int .i64 xi, .int .u8 kd, .int .u8 bu, .int .i64 cu, .int .i64 pv, .int .i64 ge, .int .i64 ti, .slice wa wn wc]] w (EnPutRet fk fi xk xi kd bu cu pv ge ti zs w) := by
  have bW := heap_alloc_new w (.cells #[.int .u8 fk, .int .i64 fi, .int .u8 xk, .int .i64 xi, .int .u8 kd, .int .u8 bu, .int .i64 cu, .int .i64 pv, .int .i64 ge, .int .i64 ti, .slice wa wn wc] 29)
  have L0 := (Below.refl w.heap.size w).alloc (Nat.le_refl _) (.cells #[.int .u8 fk, .int .i64 fi, .int .u8 xk, .int .i64 xi, .int .u8 kd, .int .u8 bu, .int .i64 cu, .int .i64 pv, .int .i64 ge, .int .i64 ti, .slice wa wn wc] 29)
  have HR := Lib.hid (fun W (m : Below w.heap.size w W) => (hr.below m).more m.size)
  have HH := Lib.hid H
  have HL := Lib.hid hl
  have HN := Lib.hid hn
  have HI := Lib.hid (row_in hr)
  obtain ⟨q0, q1, q2, q3, q4, q5, q6, q7, q8, q9, q10⟩ := wr_cells _ _ _ _ _ _ _ _ _ _ _ _ _ bW
  clear hr H hl hn
  go_enter Tryd.func14, Tryd.ntmps14
  go_upto_region 1 with (fail)
  generalize w.alloc (.cells #[.int .u8 fk, .int .i64 fi, .int .u8 xk, .int .i64 xi, .int .u8 kd, .int .u8 bu, .int .i64 cu, .int .i64 pv, .int .i64 ge, .int .i64 ti, .slice wa wn wc] 29) = W0 at *
  go_wp2_with (fail)
  refine (r7Addr_any fk fi W0).mono ?_
  rintro e w1 ⟨rfl, m1⟩
  have L1 := L0.trans (m1.mono L0.size)
  have bW1 := (m1.block _ (Array.getElem?_eq_some_iff.1 bW).1).trans bW
  clear q0 q1 q2 q3 q4 q5 q6 q7 q8 q9 q10 bW L0 m1
  obtain ⟨q0, q1, q2, q3, q4, q5, q6, q7, q8, q9, q10⟩ := wr_cells _ _ _ _ _ _ _ _ _ _ _ _ _ bW1
  go_wp2_with (fail)
  refine (r7Addr_any xk xi w1).mono ?_
  rintro e w2 ⟨rfl, m2⟩
  have L2 := L1.trans (m2.mono L1.size)
  have bW2 := (m2.block _ (Array.getElem?_eq_some_iff.1 bW1).1).trans bW1
  clear q0 q1 q2 q3 q4 q5 q6 q7 q8 q9 q10 bW1 L1 m2
  obtain ⟨q0, q1, q2, q3, q4, q5, q6, q7, q8, q9, q10⟩ := wr_cells _ _ _ _ _ _ _ _ _ _ _ _ _ bW2
  go_wp2_with (fail)
  have hV : ∀ u : Nod, isNod u = true → adrV u = adr u := fun u h => by unfold adrV; rw [if_pos h]
  have HV := Lib.hid hV
  clear hV
  cases ho : optOk kd bu cu pv ge ti
  · refine (refOPut_no kd bu cu pv ge ti ho w2).mono ?_
    rintro e w3 ⟨rfl, m3⟩
    have L3 := L2.trans (m3.mono L2.size)
    have hy : enY fk fi xk xi kd bu cu pv ge ti zs.length = 13 := by unfold enY enOk; rw [ho]; simp
    have HY := Lib.hid hy
    clear q0 q1 q2 q3 q4 q5 q6 q7 q8 q9 q10 bW2 L2 m3 ho hy
    generalize isNod (fk, fi) = b1 at *
    generalize isNod (xk, xi) = b2 at *
    cases b1
    · go_wp2
      go_ret2
      exact enPut_no HY.out (by decide) L3
    · cases b2
      · go_wp2
        go_ret2
        exact enPut_no HY.out (by decide) L3
      · go_wp2
        go_ret2
        exact enPut_no HY.out (by decide) L3
  · refine (refOPut_yes kd bu cu pv ge ti HH.out.h1 HH.out.h2 ho w2).mono ?_
    rintro e w3 ⟨g, c, rfl, ho3, m3⟩
    have L3 := L2.trans (m3.mono L2.size)
    have HL3 := Lib.hid L3
    have bW3 := (m3.block _ (Array.getElem?_eq_some_iff.1 bW2).1).trans bW2
    have hin := optB_in (cu := cu) (pv := pv) (ge := ge) (ti := ti) HH.out.h1 HH.out.h2
    have RO := Lib.hid (Row.of_own ho3 (in_wf8 hin))
    have HO := Lib.hid ho
    have HIN := Lib.hid hin
    clear q0 q1 q2 q3 q4 q5 q6 q7 q8 q9 q10 bW2 L2 L3 m3 ho ho3 hin
    obtain ⟨q0, q1, q2, q3, q4, q5, q6, q7, q8, q9, q10⟩ := wr_cells _ _ _ _ _ _ _ _ _ _ _ _ _ bW3
    clear bW3
    cases h1 : isNod (fk, fi)
    · have hy : enY fk fi xk xi kd bu cu pv ge ti zs.length = 13 := by unfold enY enOk; rw [h1]; simp
      have HY := Lib.hid hy
      clear hy h1
      go_wp2
      go_ret2
      exact enPut_no HY.out (by decide) HL3.out
    · cases h2 : isNod (xk, xi)
      · have hy : enY fk fi xk xi kd bu cu pv ge ti zs.length = 13 := by unfold enY enOk; rw [h2]; simp
        have HY := Lib.hid hy
        clear hy h1 h2
        go_wp2
        go_ret2
        exact enPut_no HY.out (by decide) HL3.out
      · rw [HV.out _ h1, HV.out _ h2]
        have a1 := adr_all _ (isNod_mem.1 h1)
        have a2 := adr_all _ (isNod_mem.1 h2)
        have HEQ := Lib.hid (show enOk fk fi xk xi kd bu cu pv ge ti = true by unfold enOk; rw [h1, h2, HO.out]; rfl)
        have HA := Lib.hid (show Nums 0 0 0 64 4 (adr (fk, fi)) (adr (xk, xi)) from ⟨by decide, by decide, by decide, by decide, by decide, a1, a2⟩)
        clear h1 h2 a1 a2
        obtain ⟨sr, hsr⟩ : ∃ x, adr (fk, fi) = x := ⟨_, rfl⟩
        obtain ⟨ds, hds⟩ : ∃ x, adr (xk, xi) = x := ⟨_, rfl⟩
        have HS := Lib.hid (And.intro hsr hds)
        rw [hsr, hds] at HA
        rw [hsr, hds]
        clear hsr hds
        by_cases hsz : 36 + wn ≤ 65535
        · have hrt : rightB 0 16 wn = true := decide_eq_true ⟨.inl rfl, by omega, rfl, by omega⟩
          have K := Lib.hid (refPut_n 0 0 0 64 4 sr ds (some ⟨g, 0, none⟩) 16 c wa wn wc (optB kd bu cu pv ge ti) zs HA.out hrt w3 RO.out rfl (fun h => by cases h) (HR.out _ HL3.out) HL.out HN.out)
          have HSZ := Lib.hid hsz
          clear hrt hsz
          go_wp2_with (fail)
          refine K.out.mono ?_
          rintro e w4 ⟨A4, c4, rfl, o4, m4⟩
          go_wp2
          go_ret2
          have hy : enY fk fi xk xi kd bu cu pv ge ti zs.length = 0 := by unfold enY; rw [if_pos HEQ.out, if_pos (by rw [HL.out]; exact HSZ.out)]
          have hz : enZ fk fi xk xi kd bu cu pv ge ti zs = putOf 0 0 0 64 4 sr ds 16 wn (optB kd bu cu pv ge ti) zs := by unfold enZ; rw [if_pos hy]; unfold enB; rw [HS.out.1, HS.out.2, HL.out]
          have hzl : (putOf 0 0 0 64 4 sr ds 16 wn (optB kd bu cu pv ge ti) zs).length = 20 + 16 + wn := by have := o4.1; simpa using this
          refine ⟨A4, 20 + 16 + wn, c4, by rw [hy]; rfl, by rw [hz]; exact hzl, by rw [hz]; exact Row.of_own o4 (in_wf8 (putOf_in HIN.out HI.out)), fun hA => own_nil o4 hA, (own_cap o4).1, (own_cap o4).2, HL3.out.trans (m4.mono HL3.out.size)⟩
        · have hrt : rightB 0 16 wn = false := decide_eq_false (by omega)
          have K := Lib.hid (refPut_no 0 0 0 64 4 sr ds (some ⟨g, 0, none⟩) 16 c wa wn wc hrt (by omega) (by omega) w3)
          have hy : enY fk fi xk xi kd bu cu pv ge ti zs.length = 12 := by unfold enY; rw [if_pos HEQ.out, if_neg (by rw [HL.out]; exact hsz)]
          have HY := Lib.hid hy
          clear hrt hsz hy
          go_wp2_with (fail)
          refine K.out.mono ?_
          rintro e w4 ⟨rfl, m4⟩
          go_wp2
          go_ret2
          exact enPut_no HY.out (by decide) (HL3.out.trans (m4.mono HL3.out.size))
end Go.Proofs.YthenbpnlmpeafaaDoor
