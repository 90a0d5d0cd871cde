/- The document's own Put. -/
import Derived.Test.YtjofijigfkkidaaDoorIpT
namespace Go.Proofs.YtjofijigfkkidaaDoor
open Go.RowKit
open SumM

theorem put_list {sv nu fl ho pr sr ds : Int} {on pn : Nat} (os : List Int) (h4 : on % 4 = 0) :
    [69 + (on : Int) / 4, sv] ++ [(20 + (on : Int) + pn) / 256, (20 + (on : Int) + pn) % 256] ++ [nu / 256, nu % 256] ++ [fl / 256, fl % 256] ++ [ho, pr, 0, 0] ++ fourOf sr ++ fourOf ds ++ os = headC sv nu fl ho pr sr ds on pn 0 0 os := by
  have e1 : 69 + (on : Int) / 4 = 64 + (20 + (on : Int)) / 4 := by omega
  have e2 : ∀ n : Int, n / 65536 / 256 = n / 16777216 := fun n => by omega
  have e3 : ∀ n : Int, n % 65536 / 256 = n / 256 % 256 := fun n => by omega
  simp [headC, fourOf, e1, e2, e3]
theorem in_two {a b : Int} (ha : 0 ≤ a ∧ a ≤ 255) (hb : 0 ≤ b ∧ b ≤ 255) : ∀ n ∈ [a, b], (Lit.int .u8 n).wf = true := in_wf8 (by
  intro x hx
  simp only [List.mem_cons, List.not_mem_nil, or_false] at hx
  omega)

theorem one_u8 (l : List Int) : ∀ u ∈ l.map (Value.int .u8), u.oneCell' = true := by
  intro u hu
  obtain ⟨n, _, rfl⟩ := List.mem_map.1 hu
  rfl
theorem own_grown {W W' : World} {base b2 g n c m c2 : Nat} {e : TypeId} {xs ys : List Value} {ad : Nat} (h : W.ownsRow b2 e 1 (.slice (some ⟨ad, 0, none⟩) m c2) m ys) (_ho : W.ownsRow base e 1 (.slice (some ⟨g, 0, none⟩) n c) n xs) (hg : W.grownBy W' (Value.slice (some ⟨g, 0, none⟩) n c).ownBlock) (hlt : g < b2) : W'.ownsRow b2 e 1 (.slice (some ⟨ad, 0, none⟩) m c2) m ys := by
  refine h.kept hg (.inr ?_)
  have := (h.lt ad rfl).1
  simp [Value.ownBlock]
  omega

set_option maxRecDepth 100000 in
set_option maxHeartbeats 8000000 in
theorem refPut_n (sv nu fl ho pr sr ds : Int) (oa : Option Addr) (on oc : Nat) (pa : Option Addr) (pn pc : Nat) (os ps : List Int) (H : Nums sv nu fl ho pr sr ds) (hrt : rightB fl on pn = true) (w : World)
    (hro : Row .u8 w.heap.size w oa os) (hol : os.length = on) (hon : oa = none → oc = 0) (hrp : Row .u8 w.heap.size w pa ps) (hpl : ps.length = pn) (hpn : pa = none → pc = 0) :
    Calls Tryd.prog 11 #[.agg #[.int .u8 sv, .int .u16 nu, .int .u16 fl, .int .u8 ho, .int .u8 pr, .int .u32 sr, .int .u32 ds, .slice oa on oc, .slice pa pn pc]] w (PutN (20 + on + pn) (putOf sv nu fl ho pr sr ds on pn os ps) w) := by
  have hs := rightB_le hrt
  obtain ⟨b1, b2, b3, b4, b5, b6, b7⟩ := H
  have HN := Lib.hid (show Nums sv nu fl ho pr sr ds from ⟨b1, b2, b3, b4, b5, b6, b7⟩)
  have HR := Lib.hid hrt
  have HO := Lib.hid hol
  have HP := Lib.hid hpl
  have NO := Lib.hid hon
  have NP := Lib.hid hpn
  have RO := Lib.hid (fun W (m : Below w.heap.size w W) => hro.below m)
  have RP := Lib.hid (fun W (m : Below w.heap.size w W) => hrp.below m)
  have HS := Lib.hid hs
  have hs1 := hs.1
  have hs3 := hs.2.2
  clear hol hpl hon hpn hrt hro hrp hs
  have HW4 := Lib.hid (show ∀ n ∈ [ho, pr, 0, 0], (Lit.int .u8 n).wf = true from in_wf8 (by intro x hx; simp only [List.mem_cons, List.not_mem_nil, or_false] at hx; omega))
  obtain ⟨i0, hi, hz0, hz1, hz2⟩ := info_parts Tryd.infoU8
  have hH0 := heap_alloc_new w (.cells #[.int .u8 sv, .int .u16 nu, .int .u16 fl, .int .u8 ho, .int .u8 pr, .int .u32 sr, .int .u32 ds, .slice oa on oc, .slice pa pn pc] 26)
  have L0 := (Below.refl w.heap.size w).alloc (Nat.le_refl _) (.cells #[.int .u8 sv, .int .u16 nu, .int .u16 fl, .int .u8 ho, .int .u8 pr, .int .u32 sr, .int .u32 ds, .slice oa on oc, .slice pa pn pc] 26)
  have hz0' : w.heap.size < (w.alloc (.cells #[.int .u8 sv, .int .u16 nu, .int .u16 fl, .int .u8 ho, .int .u8 pr, .int .u32 sr, .int .u32 ds, .slice oa on oc, .slice pa pn pc] 26)).heap.size := by simp
  go_enter Tryd.func11, Tryd.ntmps11
  go_wp2_with fail
  generalize w.alloc (.cells #[.int .u8 sv, .int .u16 nu, .int .u16 fl, .int .u8 ho, .int .u8 pr, .int .u32 sr, .int .u32 ds, .slice oa on oc, .slice pa pn pc] 26) = W0 at *
  refine (refRight_any sv nu fl ho pr sr ds oa on oc pa pn pc _ (by omega) (by omega)).mono ?_
  rintro e w1 ⟨rfl, m1⟩
  rw [HR.out]
  have L1 := L0.trans (m1.mono L0.size)
  have hH1 := (m1.block _ hz0').trans hH0
  have hb1 := Nat.lt_of_lt_of_le hz0' m1.size
  have QB := Lib.hid (fun W (mm : Below w1.heap.size w1 W) => nine_cells ((mm.block _ hb1).trans hH1))
  obtain ⟨⟨q0, q1, q2, q3, q4, q5, q6, q7, q8⟩, _⟩ := nine_cells hH1
  have la := (Below.refl w1.heap.size w1).alloc (Nat.le_refl _) (.cells #[.int .u8 (69 + (on : Int) / 4), .int .u8 sv] 5)
  have Oa : (w1.alloc (.cells #[.int .u8 (69 + (on : Int) / 4), .int .u8 sv] 5)).ownsRow w1.heap.size 5 1 (.slice (some ⟨w1.heap.size, 0, none⟩) 2 2) 2 ([69 + (on : Int) / 4, sv].map (Value.int .u8)) := own_built w1 w1.heap.size (Nat.le_refl _) 5 ([69 + (on : Int) / 4, sv].map (Value.int .u8)) 2 rfl (by unfold maxLen; omega)
  obtain ⟨⟨r0, r1, r2, r3, r4, r5, r6, r7, r8⟩, _⟩ := QB.out _ la
  clear hH0 L0 m1 hz0' hH1
  go_wp2_with fail
  generalize w1.alloc (.cells #[.int .u8 (69 + (on : Int) / 4), .int .u8 sv] 5) = wa at *
  refine (refSize_any sv nu fl ho pr sr ds oa on oc pa pn pc _ (by omega) (by omega)).mono ?_
  rintro e wb ⟨rfl, mb⟩
  rw [if_pos HR.out]
  have Ob := own_below Oa mb
  have Mb := la.trans (mb.mono la.size)
  clear q0 q1 q2 q3 q4 q5 q6 q7 q8 r0 r1 r2 r3 r4 r5 r6 r7 r8 Oa la mb
  go_wp2_with fail
  refine (two_any _ (by omega) _).mono ?_
  rintro e wb' ⟨rfl, rfl⟩
  have Oc := Ob.alloc (.cells #[.int .u8 ((20 + (on : Int) + pn) / 256), .int .u8 ((20 + (on : Int) + pn) % 256)] 5)
  have Rc : Row .u8 (wb.heap.size + 1) (wb.alloc (.cells #[.int .u8 ((20 + (on : Int) + pn) / 256), .int .u8 ((20 + (on : Int) + pn) % 256)] 5)) (some ⟨wb.heap.size, 0, none⟩) [(20 + (on : Int) + pn) / 256, (20 + (on : Int) + pn) % 256] := Row.built .u8 wb 5 [(20 + (on : Int) + pn) / 256, (20 + (on : Int) + pn) % 256] (in_two (by omega) (by omega))
  have Mc := Mb.alloc Mb.size (.cells #[.int .u8 ((20 + (on : Int) + pn) / 256), .int .u8 ((20 + (on : Int) + pn) % 256)] 5)
  go_wp2_with (at_builtin; (refine wpList_append_row _ rfl (.tmp 18) (.tmp 21) 24 rfl w1.heap.size 5 i0 (.int .u8 0) 1 Tryd.underlying24 hi hz0 hz1 hz2 rfl (.slice (some ⟨w1.heap.size, 0, none⟩) 2 2) 2 _ rfl Oc .u8 _ _ 2 2 [(20 + (on : Int) + pn) / 256, (20 + (on : Int) + pn) % 256] rfl rfl Rc (fun h => by cases h) (by unfold maxLen; omega) (by omega) Mc.size ?_); intro vd wd Od hgd; rw [← List.map_append] at Od; have Md := Mc.grown hgd Mc.size (fun e he => by cases he <;> exact Nat.le_refl _); have rd := (QB.out _ Md).1.2.1)
  refine (two_any _ (by omega) _).mono ?_
  rintro e w' ⟨rfl, rfl⟩
  have O' := Od.alloc (.cells #[.int .u8 (nu / 256), .int .u8 (nu % 256)] 5)
  have R' : Row .u8 (wd.heap.size + 1) (wd.alloc (.cells #[.int .u8 (nu / 256), .int .u8 (nu % 256)] 5)) (some ⟨wd.heap.size, 0, none⟩) [nu / 256, nu % 256] := Row.built .u8 wd 5 [nu / 256, nu % 256] (in_two (by omega) (by omega))
  have M' := Md.alloc Md.size (.cells #[.int .u8 (nu / 256), .int .u8 (nu % 256)] 5)
  go_wp2_with (first
    | (at_builtin; refine wpList_append_row _ rfl (.tmp 23) (.tmp 27) 24 rfl w1.heap.size 5 i0 (.int .u8 0) 1 Tryd.underlying24 hi hz0 hz1 hz2 rfl vd (2 + 2) _ rfl O' .u8 _ _ 2 2 [nu / 256, nu % 256] rfl rfl R' (fun h => by cases h) (by unfold maxLen; omega) (by omega) M'.size ?_; intro ve we Oe hge; rw [← List.map_append] at Oe; have Me := M'.grown hge M'.size (fun e he => (Od.lt e he).1); have re := (QB.out _ Me).1.2.2.1))
  clear O' R' M' rd Od Md hgd Oc Rc Mc Ob Mb hge
  refine (two_any _ (by omega) _).mono ?_
  rintro e w' ⟨rfl, rfl⟩
  have O' := Oe.alloc (.cells #[.int .u8 (fl / 256), .int .u8 (fl % 256)] 5)
  have R' : Row .u8 (we.heap.size + 1) (we.alloc (.cells #[.int .u8 (fl / 256), .int .u8 (fl % 256)] 5)) (some ⟨we.heap.size, 0, none⟩) [fl / 256, fl % 256] := Row.built .u8 we 5 [fl / 256, fl % 256] (in_two (by omega) (by omega))
  have M' := Me.alloc Me.size (.cells #[.int .u8 (fl / 256), .int .u8 (fl % 256)] 5)
  go_wp2_with (first
    | (at_builtin; refine wpList_append_row _ rfl (.tmp 29) (.tmp 33) 24 rfl w1.heap.size 5 i0 (.int .u8 0) 1 Tryd.underlying24 hi hz0 hz1 hz2 rfl ve (2 + 2 + 2) _ rfl O' .u8 _ _ 2 2 [fl / 256, fl % 256] rfl rfl R' (fun h => by cases h) (by unfold maxLen; omega) (by omega) M'.size ?_; intro vf wf Of hgf; rw [← List.map_append] at Of; have Mf := M'.grown hgf M'.size (fun e he => (Oe.lt e he).1); have rf := (QB.out _ Mf).1.2.2.2.1; have rg := (QB.out _ Mf).1.2.2.2.2.1; have lf := Mf.alloc Mf.size (.cells #[.int .u8 ho, .int .u8 pr, .int .u8 0, .int .u8 0] 5); have Of' := Of.alloc (.cells #[.int .u8 ho, .int .u8 pr, .int .u8 0, .int .u8 0] 5); have Rf : Row .u8 (wf.heap.size + 1) (wf.alloc (.cells #[.int .u8 ho, .int .u8 pr, .int .u8 0, .int .u8 0] 5)) (some ⟨wf.heap.size, 0, none⟩) [ho, pr, 0, 0] := Row.built .u8 wf 5 [ho, pr, 0, 0] HW4.out)
    | (at_builtin; refine wpList_append_row _ rfl (.tmp 35) (.tmp 40) 24 rfl w1.heap.size 5 i0 (.int .u8 0) 1 Tryd.underlying24 hi hz0 hz1 hz2 rfl vf (2 + 2 + 2 + 2) _ rfl Of' .u8 _ _ 4 4 [ho, pr, 0, 0] rfl rfl Rf (fun h => by cases h) (by unfold maxLen; omega) (by omega) lf.size ?_; intro vg wg Og hgg; rw [← List.map_append] at Og; have Mg := lf.grown hgg lf.size (fun e he => (Of.lt e he).1)))
  clear O' R' M' re rf rg Oe Me hgf Of Of' Mf Rf lf hgg
  obtain ⟨lg, hlg⟩ : ∃ l, [69 + (on : Int) / 4, sv] ++ [(20 + (on : Int) + pn) / 256, (20 + (on : Int) + pn) % 256] ++ [nu / 256, nu % 256] ++ [fl / 256, fl % 256] ++ [ho, pr, 0, 0] = l := ⟨_, rfl⟩
  rw [hlg] at Og
  have HLG := Lib.hid hlg
  clear hlg
  have O0 : wg.drew.ownsRow w1.heap.size 5 1 vg 12 (lg.map (Value.int .u8)) := Og
  obtain ⟨gg, cg, rfl, hgg⟩ := own_form O0 (by omega)
  have N0 : Below w1.heap.size w1 wg.drew := Mg.drew
  have hggl : gg < wg.drew.heap.size := (O0.lt gg rfl).2
  have QS := Lib.hid (fun W (mm : Below w1.heap.size w1 W) => (show W.cell? ⟨w.heap.size, 5, none⟩ = some (.int .u32 sr) ∧ W.cell? ⟨w.heap.size, 6, none⟩ = some (.int .u32 ds) from ⟨(QB.out _ mm).1.2.2.2.2.2.1, (QB.out _ mm).1.2.2.2.2.2.2.1⟩))
  clear Og Mg
  go_region_held3 (fun W => W.cell? ⟨w.heap.size, 5, none⟩ = some (.int .u32 sr) ∧ W.cell? ⟨w.heap.size, 6, none⟩ = some (.int .u32 ds))
    (first | with_reducible exact QS.out _ NY | with_reducible exact QS.out _ NX | with_reducible exact QS.out _ NB | with_reducible exact QS.out _ NA | with_reducible exact QS.out _ N0)
    (first
      | (go_at_call_of 29 (Value.int .u32 sr); (with_reducible refine (four_any sr b6 _).mono ?_); rintro e wA ⟨gA, cA, rfl, OA, mA⟩; have NA := N0.trans (mA.mono N0.size); have PA := own_below O0 mA)
      | (go_at_call_of 29 (Value.int .u32 ds); (with_reducible refine (four_any ds b7 _).mono ?_); rintro e wB ⟨gB, cB, rfl, OB, mB⟩; first | (have NB := NX.trans (mB.mono NX.size); have PX := own_below OX mB) | (have NB := NA.trans (mB.mono NA.size); have PB := own_below PA mB; have QA := own_below OA mB))
      | (refine step_append_w wA (by rfl) _ _ _ (by rfl) w1.heap.size 5 i0 (.int .u8 0) 1 Tryd.underlying24 hi hz0 hz1 hz2 rfl (.slice (some ⟨gg, 0, none⟩) 12 cg) 12 (lg.map (Value.int .u8)) (by rfl) PA ⟨gA, 0, none⟩ 4 cA ((fourOf sr).map (Value.int .u8)) (by rfl) (by rfl) (OA.cells rfl) (one_u8 _) (by omega) (by unfold maxLen; omega) (by omega) NA.size ?_; intro gX cX wX OX hgX; rw [← List.map_append] at OX; have NX := NA.grown hgX NA.size (fun e he => by cases he <;> exact hgg))
      | (refine step_append_w wB (by rfl) _ _ _ (by rfl) w1.heap.size 5 i0 (.int .u8 0) 1 Tryd.underlying24 hi hz0 hz1 hz2 rfl (.slice (some ⟨gg, 0, none⟩) 12 cg) 12 (lg.map (Value.int .u8)) (by rfl) PB ⟨gA, 0, none⟩ 4 cA ((fourOf sr).map (Value.int .u8)) (by rfl) (by rfl) (QA.cells rfl) (one_u8 _) (by omega) (by unfold maxLen; omega) (by omega) NB.size ?_; intro gX cX wX OX hgX; rw [← List.map_append] at OX; have NX := NB.grown hgX NB.size (fun e he => by cases he <;> exact hgg); have OB' := own_grown OB PB hgX (Nat.lt_of_lt_of_le hggl mA.size))
      | (refine step_append_w wB (by rfl) _ _ _ (by rfl) w1.heap.size 5 i0 (.int .u8 0) 1 Tryd.underlying24 hi hz0 hz1 hz2 rfl (.slice (some ⟨gX, 0, none⟩) (12 + 4) cX) (12 + 4) ((lg ++ fourOf sr).map (Value.int .u8)) (by rfl) PX ⟨gB, 0, none⟩ 4 cB ((fourOf ds).map (Value.int .u8)) (by rfl) (by rfl) (OB.cells rfl) (one_u8 _) (by omega) (by unfold maxLen; omega) (by omega) NB.size ?_; intro gY cY wY OY hgY; rw [← List.map_append] at OY; have NY := NB.grown hgY NB.size (fun e he => (PX.lt e he).1))
      | (refine step_append_w wX (by rfl) _ _ _ (by rfl) w1.heap.size 5 i0 (.int .u8 0) 1 Tryd.underlying24 hi hz0 hz1 hz2 rfl (.slice (some ⟨gX, 0, none⟩) (12 + 4) cX) (12 + 4) ((lg ++ fourOf sr).map (Value.int .u8)) (by rfl) OX ⟨gB, 0, none⟩ 4 cB ((fourOf ds).map (Value.int .u8)) (by rfl) (by rfl) (OB'.cells rfl) (one_u8 _) (by omega) (by unfold maxLen; omega) (by omega) NX.size ?_; intro gY cY wY OY hgY; rw [← List.map_append] at OY; have NY := NX.grown hgY NX.size (fun e he => (OX.lt e he).1)))
  clear O0
  have HL := Lib.hid (show lg ++ fourOf sr ++ fourOf ds ++ os = headC sv nu fl ho pr sr ds on pn 0 0 os by rw [← HLG.out]; exact put_list os HS.out.2.1)
  have y7 := (QB.out _ NY).1.2.2.2.2.2.2.2.1
  have LY := L1.trans (NY.mono L1.size)
  go_wp2_with (at_builtin; refine wpList_append_row _ rfl (.tmp 51) (.tmp 53) 24 rfl w1.heap.size 5 i0 (.int .u8 0) 1 Tryd.underlying24 hi hz0 hz1 hz2 rfl (.slice (some ⟨gY, 0, none⟩) 20 cY) 20 _ rfl OY .u8 w.heap.size oa on oc os rfl HO.out (RO.out _ LY) NO.out (by unfold maxLen; omega) (by omega) NY.size ?_; intro vZ wZ OZ hgZ; rw [← List.map_append] at OZ; have NZ := NY.grown hgZ NY.size (fun e he => (OY.lt e he).1))
  rw [HL.out] at OZ
  obtain ⟨gZ, cZ, rfl, hgZb⟩ := own_form OZ (by omega)
  obtain ⟨hd, hhd⟩ : ∃ l, headC sv nu fl ho pr sr ds on pn 0 0 os = l := ⟨_, rfl⟩
  rw [hhd] at OZ
  have HHD := Lib.hid hhd
  have HDL := Lib.hid (show hd.length = 20 + on by rw [← hhd, headC_length, HO.out])
  have HIN := Lib.hid (show In 255 hd by
    rw [← hhd, ← headOf_eq os HN.out HS.out]
    exact headOf_in (row_in (RO.out _ LY)))
  obtain ⟨K, hK⟩ : ∃ K, 65535 - sumOf hd = K := ⟨_, rfl⟩
  have hKi : 0 ≤ K ∧ K ≤ 65535 := by
    have := cr_in (tot (words hd))
    rw [← hK]
    unfold sumOf
    omega
  have HK := Lib.hid hK
  clear hhd hK OY hgZ y7 NY OX
  refine (rcheck_any _ (20 + on) cZ hd HDL.out (by omega) _ (Row.of_own OZ (in_wf8 HIN.out))).mono ?_
  rintro e wq ⟨rfl, mq⟩
  rw [HK.out]
  have Oq := own_below OZ mq
  have Mq := NZ.trans (mq.mono NZ.size)
  clear OZ mq NZ
  go_wp2_with fail
  refine (two_any K hKi _).mono ?_
  rintro e w' ⟨rfl, rfl⟩
  have Or := Oq.alloc (.cells #[.int .u8 (K / 256), .int .u8 (K % 256)] 5)
  have Mr := Mq.alloc Mq.size (.cells #[.int .u8 (K / 256), .int .u8 (K % 256)] 5)
  have kr := heap_alloc_new wq (.cells #[.int .u8 (K / 256), .int .u8 (K % 256)] 5)
  have k0 : (wq.alloc (.cells #[.int .u8 (K / 256), .int .u8 (K % 256)] 5)).cell? ⟨wq.heap.size, 0, none⟩ = some (.int .u8 (K / 256)) := by rw [cell_of_row _ _ _ _ _ _ kr]; rfl
  have k1 : (wq.alloc (.cells #[.int .u8 (K / 256), .int .u8 (K % 256)] 5)).cell? ⟨wq.heap.size, 1, none⟩ = some (.int .u8 (K % 256)) := by rw [cell_of_row _ _ _ _ _ _ kr]; rfl
  clear Oq Mq kr
  go_wp2_with fail
  generalize wq.alloc (.cells #[.int .u8 (K / 256), .int .u8 (K % 256)] 5) = wr at *
  have x1 := own_cell Or 10 (by omega)
  have f1 := Or.frozenAt 10
  have Os := own_store Or 10 (K / 256)
  have x2 := own_cell Os 11 (by omega)
  have f2 := Os.frozenAt 11
  go_region
  have Ot : (((wr.setCell ⟨gZ, 10, none⟩ (.int .u8 (K / 256))).setCell ⟨gZ, 11, none⟩ (.int .u8 (K % 256))).drew).ownsRow w1.heap.size 5 1 (.slice (some ⟨gZ, 0, none⟩) (20 + on) cZ) (20 + on) (((hd.set 10 (K / 256)).set 11 (K % 256)).map (Value.int .u8)) := own_store Os 11 (K % 256)
  have Mt := ((Mr.setCell (p := ⟨gZ, 10, none⟩) hgZb (.int .u8 (K / 256))).setCell (p := ⟨gZ, 11, none⟩) hgZb (.int .u8 (K % 256))).drew
  have y8 := (QB.out _ Mt).1.2.2.2.2.2.2.2.2
  have Lt := L1.trans (Mt.mono L1.size)
  clear x1 x2 f1 f2 Or Os Mr k0 k1
  generalize ((wr.setCell ⟨gZ, 10, none⟩ (.int .u8 (K / 256))).setCell ⟨gZ, 11, none⟩ (.int .u8 (K % 256))).drew = wt at *
  go_wp2_with (at_builtin; refine wpList_append_row _ rfl (.tmp 69) (.tmp 71) 24 rfl w1.heap.size 5 i0 (.int .u8 0) 1 Tryd.underlying24 hi hz0 hz1 hz2 rfl (.slice (some ⟨gZ, 0, none⟩) (20 + on) cZ) (20 + on) _ rfl Ot .u8 w.heap.size pa pn pc ps rfl HP.out (RP.out _ Lt) NP.out (by unfold maxLen; omega) (by omega) Mt.size ?_; intro vU wU OU hgU; rw [← List.map_append] at OU; have NU := Lt.grown hgU Lt.size (fun e he => Nat.le_trans L1.size (Ot.lt e he).1))
  go_ret2
  have hfin : (hd.set 10 (K / 256)).set 11 (K % 256) ++ ps = putOf sv nu fl ho pr sr ds on pn os ps := by
    unfold putOf
    rw [headOf_eq os HN.out HS.out, HHD.out, HK.out]
  rw [hfin] at OU
  obtain ⟨A, C, rfl⟩ := own_slice OU
  exact ⟨A, C, rfl, own_base OU L1.size, NU⟩

set_option maxRecDepth 100000 in
set_option maxHeartbeats 2000000 in
theorem refPut_no (sv nu fl ho pr sr ds : Int) (oa : Option Addr) (on oc : Nat) (pa : Option Addr) (pn pc : Nat) (hrt : rightB fl on pn = false) (ho' : on ≤ 281474976710656) (hp' : pn ≤ 281474976710656) (w : World) :
    Calls Tryd.prog 11 #[.agg #[.int .u8 sv, .int .u16 nu, .int .u16 fl, .int .u8 ho, .int .u8 pr, .int .u32 sr, .int .u32 ds, .slice oa on oc, .slice pa pn pc]] w fun e w' => e = .returned (.tuple #[.slice none 0 0, .bool false]) ∧ Below w.heap.size w w' := by
  have HR := Lib.hid hrt
  clear hrt
  have L0 := (Below.refl w.heap.size w).alloc (Nat.le_refl _) (.cells #[.int .u8 sv, .int .u16 nu, .int .u16 fl, .int .u8 ho, .int .u8 pr, .int .u32 sr, .int .u32 ds, .slice oa on oc, .slice pa pn pc] 26)
  go_enter Tryd.func11, Tryd.ntmps11
  go_wp2_with (go_at_call 15; refine (refRight_any sv nu fl ho pr sr ds oa on oc pa pn pc _ ho' hp').mono ?_; rintro e w1 ⟨rfl, m1⟩; have LL := L0.trans (m1.mono L0.size); clear m1; rw [HR.out])
  go_ret2
  exact ⟨rfl, LL⟩
end Go.Proofs.YtjofijigfkkidaaDoor
