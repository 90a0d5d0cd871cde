/- Two tables merged: package table's, the document's. -/
import Derived.Test.YtanbkbppahgbgaaTbD
import Derived.Test.YtanbkbppahgbgaaRegIn
import Derived.Sort.CutIn
namespace Go.Proofs.Ytanbkbppahgbgaa
open Go.RowKit Go.Shelf
open SumM

attribute [local go_sem] Oper.semAt_some zero_tab build_tab guard_undef
attribute [local go_sem ↓] nm_ldT nm_ldA nm_ldN nm_stT nm_stN

/-- Is the second one's row newer? -/
def nwP (T U : Nat → Int) (i : Nat) : Bool := decide ((rowT T i).2.2.1 < (rowT U i).2.2.1)
/-- Merged as far as the rows below k. -/
def mgT (T U : Nat → Int) (k : Nat) : Nat → Int := fun o => if 1 ≤ o ∧ o < 1 + k * 4 ∧ nwP T U ((o - 1) / 4) = true then U o else T o
/-- Merged. -/
def mg (T U : Nat → Int) : Nat → Int := upd (mgT T U 16) 0 (max (T 0) (U 0))
theorem mgT_zero (T U : Nat → Int) (o : Nat) : T o = mgT T U 0 o := by
  unfold mgT
  rw [if_neg (by omega)]
theorem mgT_ver (T U : Nat → Int) (k : Nat) : mgT T U k 0 = T 0 := by
  unfold mgT
  rw [if_neg (by omega)]
theorem mgT_row (T U : Nat → Int) (k : Nat) : rowT (mgT T U k) k = rowT T k := by
  unfold rowT mgT
  rw [if_neg (by omega), if_neg (by omega), if_neg (by omega), if_neg (by omega)]
theorem mgT_no {T U : Nat → Int} {k : Nat} (h : nwP T U k = false) (o : Nat) : mgT T U k o = mgT T U (k + 1) o := by
  unfold mgT
  by_cases ho : 1 ≤ o ∧ o < 1 + k * 4
  · have e : (1 ≤ o ∧ o < 1 + k * 4 ∧ nwP T U ((o - 1) / 4) = true) = (1 ≤ o ∧ o < 1 + (k + 1) * 4 ∧ nwP T U ((o - 1) / 4) = true) := by
      refine propext ⟨fun h => ⟨h.1, by omega, h.2.2⟩, fun h => ⟨h.1, ho.2, h.2.2⟩⟩
    simp only [e]
  · rw [if_neg (fun c => ho ⟨c.1, c.2.1⟩)]
    rw [if_neg]
    rintro ⟨h1, h2, h3⟩
    rw [show (o - 1) / 4 = k by omega, h] at h3
    cases h3
theorem mgT_yes {T U : Nat → Int} {k : Nat} (h : nwP T U k = true) (o : Nat) : setR (mgT T U k) k (rowT U k) o = mgT T U (k + 1) o := by
  have hin : ∀ j, j < 4 → mgT T U (k + 1) (1 + k * 4 + j) = U (1 + k * 4 + j) := fun j hj => by
    unfold mgT
    rw [if_pos ⟨by omega, by omega, by rw [show (1 + k * 4 + j - 1) / 4 = k by omega]; exact h⟩]
  unfold setR upd
  by_cases h3 : o = 1 + k * 4 + 3
  · subst h3
    rw [if_pos rfl, hin 3 (by omega)]
    rfl
  rw [if_neg h3]
  by_cases h2 : o = 1 + k * 4 + 2
  · subst h2
    rw [if_pos rfl, hin 2 (by omega)]
    rfl
  rw [if_neg h2]
  by_cases h1 : o = 1 + k * 4 + 1
  · subst h1
    rw [if_pos rfl, hin 1 (by omega)]
    rfl
  rw [if_neg h1]
  by_cases h0 : o = 1 + k * 4
  · subst h0
    rw [if_pos rfl, show 1 + k * 4 = 1 + k * 4 + 0 from rfl, hin 0 (by omega)]
    rfl
  rw [if_neg h0]
  unfold mgT
  have e : (1 ≤ o ∧ o < 1 + k * 4 ∧ nwP T U ((o - 1) / 4) = true) = (1 ≤ o ∧ o < 1 + (k + 1) * 4 ∧ nwP T U ((o - 1) / 4) = true) := by
    refine propext ⟨fun h => ⟨h.1, by omega, h.2.2⟩, fun h => ⟨h.1, by omega, h.2.2⟩⟩
  simp only [e]

set_option maxRecDepth 100000 in
set_option maxHeartbeats 8000000 in
theorem r10Merge_any (T U : Nat → Int) (w : World) : Calls Try.prog 26 #[tabV T, tabV U] w fun e w' => e = .returned (tabV (mg T U)) ∧ Below w.heap.size w w' := by
  have bT := heap_alloc_new w (.cells (numL 65 T).toArray 26)
  have bT := (Below.heap_alloc _ (.cells (numL 65 U).toArray 26) _ (by simp)).trans bT
  have bU := heap_alloc_new (w.alloc (.cells (numL 65 T).toArray 26)) (.cells (numL 65 U).toArray 26)
  rw [World.size_alloc] at bU
  have L0 := ((Below.refl w.heap.size w).alloc (Nat.le_refl _) (.cells (numL 65 T).toArray 26)).alloc (by simp) (.cells (numL 65 U).toArray 26)
  have hs : ((w.alloc (.cells (numL 65 T).toArray 26)).alloc (.cells (numL 65 U).toArray 26)).heap.size = w.heap.size + 2 := by simp
  go_enter Try.func26, Try.ntmps26
  go_upto_region 1 with (fail)
  generalize (w.alloc (.cells (numL 65 T).toArray 26)).alloc (.cells (numL 65 U).toArray 26) = Wa at *
  have bR := heap_alloc_new Wa (.cells (numL 65 zeroT).toArray 26)
  rw [hs] at bR
  have bT := (Below.heap_alloc Wa (.cells (numL 65 zeroT).toArray 26) _ (by omega)).trans bT
  have bU := (Below.heap_alloc Wa (.cells (numL 65 zeroT).toArray 26) _ (by omega)).trans bU
  have L0 := L0.alloc L0.size (.cells (numL 65 zeroT).toArray 26)
  generalize Wa.alloc (.cells (numL 65 zeroT).toArray 26) = W0 at *
  have HB := Lib.hid L0
  have HT := Lib.hid (nb_congr bT (fun o _ => mgT_zero T U o))
  have HU := Lib.hid bU
  have HR := Lib.hid bR
  clear L0 bT bU bR hs
  go_wp2
  go_loopw [5] (fun i wr => ∃ k : Nat, k ≤ 16 ∧ i = .int .i64 (k : Nat) ∧ Below w.heap.size w wr ∧ NB w.heap.size 26 65 (mgT T U k) wr ∧ NB (w.heap.size + 1) 26 65 U wr ∧ NB (w.heap.size + 2) 26 65 zeroT wr) (fun i _ => 16 - (intOf i).toNat)
  case atStart => exact ⟨0, by omega, rfl, HB.out, HT.out, HU.out, HR.out⟩
  case round =>
    obtain ⟨k, hk, rfl, hB, hT, hU, hR⟩ := hrel
    clear HB HT HU HR
    by_cases hlt : k < 16
    · have hk1 : (k : Int) < 16 := by omega
      have hst := fun h : nwP T U k = true => mgT_yes h
      have hno := fun h : nwP T U k = false => mgT_no h
      have hrow := mgT_row T U k
      have hdef : nwP T U k = decide ((rowT T k).2.2.1 < (rowT U k).2.2.1) := rfl
      have qT : ∀ W : World, NB w.heap.size 26 65 (mgT T U k) W → W.rangeAt w.heap.size (1 + k * 4) (entC (rowT T k)) := fun W h => by rw [← hrow]; exact rng_row h k hlt
      have qU : ∀ W : World, NB (w.heap.size + 1) 26 65 U W → W.rangeAt (w.heap.size + 1) (1 + k * 4) (entC (rowT U k)) := fun W h => rng_row h k hlt
      generalize nwP T U k = p at *
      generalize rowT T k = u at *
      generalize rowT U k = v at *
      obtain ⟨u0, u1, u2, u3⟩ := u
      obtain ⟨v0, v1, v2, v3⟩ := v
      have KN := Lib.hid (fun W => hdef ▸ r9Newer_any v0 v1 v2 v3 u0 u1 u2 u3 W)
      have CW := Lib.hid (fun W (m : Below wr.heap.size wr W) => show W.cell? ⟨w.heap.size + 1, 1 + k * 4, none⟩ = some (.int .i64 v0) ∧ W.cell? ⟨w.heap.size + 1, 1 + k * 4 + 1, none⟩ = some (.int .i64 v1) ∧ W.cell? ⟨w.heap.size + 1, 1 + k * 4 + 2, none⟩ = some (.int .i64 v2) ∧ W.cell? ⟨w.heap.size + 1, 1 + k * 4 + 3, none⟩ = some (.int .i64 v3) ∧ W.cell? ⟨w.heap.size, 1 + k * 4, none⟩ = some (.int .i64 u0) ∧ W.cell? ⟨w.heap.size, 1 + k * 4 + 1, none⟩ = some (.int .i64 u1) ∧ W.cell? ⟨w.heap.size, 1 + k * 4 + 2, none⟩ = some (.int .i64 u2) ∧ W.cell? ⟨w.heap.size, 1 + k * 4 + 3, none⟩ = some (.int .i64 u3) from
        ⟨(ent_of_range _ _ _ _ (qU W (bb hU m))).1, (ent_of_range _ _ _ _ (qU W (bb hU m))).2.1, (ent_of_range _ _ _ _ (qU W (bb hU m))).2.2.1, (ent_of_range _ _ _ _ (qU W (bb hU m))).2.2.2, ent_of_range _ _ _ _ (qT W (bb hT m))⟩)
      have CN := Lib.hid (fun W (m : Below wr.heap.size wr W) => And.intro (hB.trans (m.mono hB.size)) (And.intro (bb hT m) (And.intro (bb hU m) (bb hR m))))
      have hrw : w.heap.size + 2 < wr.heap.size := nb_lt hR
      have HRW := Lib.hid hrw
      have n0 := (Below.refl wr.heap.size wr).drew
      have HST := Lib.hid hst
      have HNO := Lib.hid hno
      clear hst hno hrow hdef qT qU hB hT hU hR hrw
      go_upto_region 4 with fail
      go_region_held3 (fun W => W.cell? ⟨w.heap.size + 1, 1 + k * 4, none⟩ = some (.int .i64 v0) ∧ W.cell? ⟨w.heap.size + 1, 1 + k * 4 + 1, none⟩ = some (.int .i64 v1) ∧ W.cell? ⟨w.heap.size + 1, 1 + k * 4 + 2, none⟩ = some (.int .i64 v2) ∧ W.cell? ⟨w.heap.size + 1, 1 + k * 4 + 3, none⟩ = some (.int .i64 v3) ∧ W.cell? ⟨w.heap.size, 1 + k * 4, none⟩ = some (.int .i64 u0) ∧ W.cell? ⟨w.heap.size, 1 + k * 4 + 1, none⟩ = some (.int .i64 u1) ∧ W.cell? ⟨w.heap.size, 1 + k * 4 + 2, none⟩ = some (.int .i64 u2) ∧ W.cell? ⟨w.heap.size, 1 + k * 4 + 3, none⟩ = some (.int .i64 u3))
        (first | with_reducible exact CW.out _ n1 | with_reducible exact CW.out _ n0)
        (first | (go_at_call 31; (with_reducible refine (KN.out wr.drew).mono ?_); rintro e w2 ⟨rfl, k1⟩; have n1 := n0.trans (k1.mono n0.size)))
      obtain ⟨hB, hT, hU, hR⟩ := CN.out _ n1
      obtain ⟨y0, y1, y2, y3, x0, x1, x2, x3⟩ := CW.out _ n1
      clear n0 n1 k1 KN CN CW
      cases p
      · have H2 := Lib.hid (And.intro hB (And.intro (nb_congr hT (fun o _ => HNO.out rfl o)) (And.intro hU hR)))
        clear hB hT hU hR x0 x1 x2 x3 y0 y1 y2 y3
        go_wp2
        go_roundw
        case rel => exact ⟨k + 1, by omega, by go_num, H2.out⟩
        case measure => simp [intOf]; omega
      · have hrw := HRW.out
        have f0 := nb_frozen hT (1 + k * 4)
        have f1 := nb_frozen hT (1 + k * 4 + 1)
        have f2 := nb_frozen hT (1 + k * 4 + 2)
        have f3 := nb_frozen hT (1 + k * 4 + 3)
        have H2 := Lib.hid (show Below w.heap.size w ((((w2.setCell ⟨w.heap.size, 1 + k * 4, none⟩ (.int .i64 v0)).setCell ⟨w.heap.size, 1 + k * 4 + 1, none⟩ (.int .i64 v1)).setCell ⟨w.heap.size, 1 + k * 4 + 2, none⟩ (.int .i64 v2)).setCell ⟨w.heap.size, 1 + k * 4 + 3, none⟩ (.int .i64 v3)) ∧ NB w.heap.size 26 65 (mgT T U (k + 1)) ((((w2.setCell ⟨w.heap.size, 1 + k * 4, none⟩ (.int .i64 v0)).setCell ⟨w.heap.size, 1 + k * 4 + 1, none⟩ (.int .i64 v1)).setCell ⟨w.heap.size, 1 + k * 4 + 2, none⟩ (.int .i64 v2)).setCell ⟨w.heap.size, 1 + k * 4 + 3, none⟩ (.int .i64 v3)) ∧ NB (w.heap.size + 1) 26 65 U ((((w2.setCell ⟨w.heap.size, 1 + k * 4, none⟩ (.int .i64 v0)).setCell ⟨w.heap.size, 1 + k * 4 + 1, none⟩ (.int .i64 v1)).setCell ⟨w.heap.size, 1 + k * 4 + 2, none⟩ (.int .i64 v2)).setCell ⟨w.heap.size, 1 + k * 4 + 3, none⟩ (.int .i64 v3)) ∧ NB (w.heap.size + 2) 26 65 zeroT ((((w2.setCell ⟨w.heap.size, 1 + k * 4, none⟩ (.int .i64 v0)).setCell ⟨w.heap.size, 1 + k * 4 + 1, none⟩ (.int .i64 v1)).setCell ⟨w.heap.size, 1 + k * 4 + 2, none⟩ (.int .i64 v2)).setCell ⟨w.heap.size, 1 + k * 4 + 3, none⟩ (.int .i64 v3)) from
          ⟨below_setCells w.heap.size (Nat.le_refl _) [.int .i64 v0, .int .i64 v1, .int .i64 v2, .int .i64 v3] (1 + k * 4) w _ hB, nb_congr (nb_row hT k (v0, v1, v2, v3)) (fun o _ => HST.out rfl o), (nb_other (b := w.heap.size) (k := w.heap.size + 1) (by omega) [.int .i64 v0, .int .i64 v1, .int .i64 v2, .int .i64 v3] (1 + k * 4) w2).trans hU, (nb_other (b := w.heap.size) (k := w.heap.size + 2) (by omega) [.int .i64 v0, .int .i64 v1, .int .i64 v2, .int .i64 v3] (1 + k * 4) w2).trans hR⟩)
        clear hB hT hU hR hrw
        go_wp2
        go_roundw
        case rel => exact ⟨k + 1, by omega, by go_num, H2.out⟩
        case measure => simp [intOf]; omega
    · obtain rfl : k = 16 := by omega
      have c0 := nb_cell hT (o := 0) (by omega)
      rw [mgT_ver] at c0
      have d0 := nb_cell hU (o := 0) (by omega)
      have g0 := nb_frozen hT 0
      have H2 := Lib.hid (And.intro hB (And.intro hT hR))
      have HMG := Lib.hid (show mg T U = upd (mgT T U 16) 0 (max (T 0) (U 0)) from rfl)
      clear hB hT hU hR
      generalize T 0 = t0 at *
      generalize U 0 = s0 at *
      by_cases hm : t0 < s0
      · have hmx := Lib.hid (show max t0 s0 = s0 by omega)
        have HM := Lib.hid hm
        go_upto_region 7 with fail
        obtain ⟨hB, hT, hR⟩ := H2.out
        have hT6 : NB w.heap.size 26 65 (mg T U) (wr.setCell ⟨w.heap.size, 0, none⟩ (.int .i64 s0)) := by rw [HMG.out, hmx.out]; exact nb_put hT 0 s0
        have hR6 : NB (w.heap.size + 2) 26 65 zeroT (wr.setCell ⟨w.heap.size, 0, none⟩ (.int .i64 s0)) := (Below.heap_setCell wr ⟨w.heap.size, 0, none⟩ (.int .i64 s0) (w.heap.size + 2) (by simp)).trans hR
        have hB6 : Below w.heap.size w (wr.setCell ⟨w.heap.size, 0, none⟩ (.int .i64 s0)) := hB.setCell (p := ⟨w.heap.size, 0, none⟩) (Nat.le_refl _) (.int .i64 s0)
        clear hB hT hR H2 c0 d0 g0 hm
        generalize wr.setCell ⟨w.heap.size, 0, none⟩ (.int .i64 s0) = W6 at *
        have l6 := ld_tab hT6
        have s6 := st_tab hR6 (mg T U)
        have HS := Lib.hid (nb_full hR6 (mg T U))
        have HX := Lib.hid (below_setCells (w.heap.size + 2) (by omega) (numL 65 (mg T U)) 0 w _ hB6)
        clear hT6 hR6 hB6
        go_wp2
        exact bodyPost_ret (results_cell_row rfl _ _ (w.heap.size + 2) 26 _ (0, 0) _ rfl HS.out Try.undT rfl (by rw [List.size_toArray, numL_len]; exact Try.sizT)) rfl ⟨rfl, HX.out⟩
      · have hmx := Lib.hid (show max t0 s0 = t0 by omega)
        have HM := Lib.hid hm
        go_upto_region 7 with fail
        obtain ⟨hB, hT, hR⟩ := H2.out
        have hT6 : NB w.heap.size 26 65 (mg T U) (wr.setCell ⟨w.heap.size, 0, none⟩ (.int .i64 t0)) := by rw [HMG.out, hmx.out]; exact nb_put hT 0 t0
        have hR6 : NB (w.heap.size + 2) 26 65 zeroT (wr.setCell ⟨w.heap.size, 0, none⟩ (.int .i64 t0)) := (Below.heap_setCell wr ⟨w.heap.size, 0, none⟩ (.int .i64 t0) (w.heap.size + 2) (by simp)).trans hR
        have hB6 : Below w.heap.size w (wr.setCell ⟨w.heap.size, 0, none⟩ (.int .i64 t0)) := hB.setCell (p := ⟨w.heap.size, 0, none⟩) (Nat.le_refl _) (.int .i64 t0)
        clear hB hT hR H2 c0 d0 g0 hm
        generalize wr.setCell ⟨w.heap.size, 0, none⟩ (.int .i64 t0) = W6 at *
        have l6 := ld_tab hT6
        have s6 := st_tab hR6 (mg T U)
        have HS := Lib.hid (nb_full hR6 (mg T U))
        have HX := Lib.hid (below_setCells (w.heap.size + 2) (by omega) (numL 65 (mg T U)) 0 w _ hB6)
        clear hT6 hR6 hB6
        go_wp2
        exact bodyPost_ret (results_cell_row rfl _ _ (w.heap.size + 2) 26 _ (0, 0) _ rfl HS.out Try.undT rfl (by rw [List.size_toArray, numL_len]; exact Try.sizT)) rfl ⟨rfl, HX.out⟩

/-- While the rows come. -/
structure MrI (T U : Nat → Int) (w : World) (pre : List Nat) (W : World) : Prop where
  lo : Below w.heap.size w W
  tb : NB w.heap.size 26 65 (mgT T U pre.length) W
  ub : NB (w.heap.size + 1) 26 65 U W
  ret : NB (w.heap.size + 2) 26 65 zeroT W
theorem mrI_abide (T U : Nat → Int) (w : World) (B : Nat) (hB : w.heap.size + 3 ≤ B) : Abide4 B (MrI T U w) where
  far := fun _ _ _ h k => ⟨h.lo.trans (k.mono h.lo.size), bb h.tb k, bb h.ub k, bb h.ret k⟩
  turn := fun _ _ _ _ o' h hl ho hc => ⟨h.lo.trans ⟨rfl, rfl, rfl, by simp [World.putObj], fun k hk => World.putObj_heap_other (by omega)⟩, (World.putObj_heap_other (by omega)).trans h.tb, (World.putObj_heap_other (by omega)).trans h.ub, (World.putObj_heap_other (by omega)).trans h.ret⟩

set_option maxRecDepth 100000 in
set_option maxHeartbeats 8000000 in
theorem merge_in (n : Nat) (hn : 4 ≤ n) (T U : Nat → Int) (w : World) :
    CallsIn Fence.wide n Try.prog 25 #[tabV T, tabV U] w fun e w' => e = .returned (tabV (mg T U)) ∧ Below w.heap.size w w' := by
  have h1n : 1 ≤ n := by omega
  refine callsIn_of_wp_marks Try.func25 rfl trivial ?_ rfl
  simp only [Try.ntmps25, List.size_toArray, List.length_cons, List.length_nil, Nat.reduceAdd, Nat.reduceSub, Array.replicate_succ, Array.replicate_zero, List.push_toArray, List.append_toArray, List.nil_append, List.cons_append]
  have bT := heap_alloc_new w (.cells (numL 65 T).toArray 26)
  have bT := (Below.heap_alloc _ (.cells (numL 65 U).toArray 26) _ (by simp)).trans bT
  have bU := heap_alloc_new (w.alloc (.cells (numL 65 T).toArray 26)) (.cells (numL 65 U).toArray 26)
  rw [World.size_alloc] at bU
  have L0 := ((Below.refl w.heap.size w).alloc (Nat.le_refl _) (.cells (numL 65 T).toArray 26)).alloc (by simp) (.cells (numL 65 U).toArray 26)
  have hs : ((w.alloc (.cells (numL 65 T).toArray 26)).alloc (.cells (numL 65 U).toArray 26)).heap.size = w.heap.size + 2 := by simp
  gi_upto_region 1 with (fail)
  generalize (w.alloc (.cells (numL 65 T).toArray 26)).alloc (.cells (numL 65 U).toArray 26) = Wa at *
  have bR := heap_alloc_new Wa (.cells (numL 65 zeroT).toArray 26)
  rw [hs] at bR
  have bT := (Below.heap_alloc Wa (.cells (numL 65 zeroT).toArray 26) _ (by omega)).trans bT
  have bU := (Below.heap_alloc Wa (.cells (numL 65 zeroT).toArray 26) _ (by omega)).trans bU
  have L0 := L0.alloc L0.size (.cells (numL 65 zeroT).toArray 26)
  have hs0 : (Wa.alloc (.cells (numL 65 zeroT).toArray 26)).heap.size = w.heap.size + 3 := by simp; omega
  generalize Wa.alloc (.cells (numL 65 zeroT).toArray 26) = W0 at *
  have l0 := ld_tab bU
  gi_wp2_with fail
  refine ⟨trivial, (rows_in (n - 1) U W0).mono ?_⟩
  rintro e w1 ⟨rfl, rfl⟩
  have hV := heap_alloc_new W0 (.cells (numL 65 U).toArray 26)
  have hsV : (W0.alloc (.cells (numL 65 U).toArray 26)).heap.size = w.heap.size + 4 := by simp; omega
  have IV : MrI T U w [] (W0.alloc (.cells (numL 65 U).toArray 26)) := ⟨L0.alloc L0.size _, (Below.heap_alloc _ _ _ (by omega)).trans (nb_congr bT (fun o _ => mgT_zero T U o)), (Below.heap_alloc _ _ _ (by omega)).trans bU, (Below.heap_alloc _ _ _ (by omega)).trans bR⟩
  rw [hs0] at hV ⊢
  have HI := Lib.hid IV
  clear l0 bR bT bU L0 hs0 IV hs
  gi_wp2
  generalize W0.alloc (.cells (numL 65 U).toArray 26) = V at *
  refine range_okG rfl h1n (gf := 42) (lb := #[.pointer (some ⟨w.heap.size + 3, 0, none⟩)]) rfl trivial (enters_of Try.func42 (by kernel_rfl) rfl)
    (rows_ok (n - 1) (by omega) (w.heap.size + 3) U V hV) (fun _ _ _ _ _ _ h _ _ _ => h) (fun _ _ => trivial) (fun _ _ _ _ _ _ _ _ => trivial) (fun _ => rfl)
    (MrI T U w) (fun _ _ _ => False) (mrI_abide T U w _ (by omega)) (fun _ => Abide4.none _) HI.out
    (fun i => .cells #[.int .i64 (rowT U i).1, .int .i64 (rowT U i).2.1, .int .i64 (rowT U i).2.2.1, .int .i64 (rowT U i).2.2.2] 23) (fun _ _ => trivial) (fun _ _ _ h => h)
    (fun i b' => { tmps := #[tabV T, tabV U, .pointer (some ⟨w.heap.size, 0, none⟩), .pointer (some ⟨w.heap.size + 1, 0, none⟩), .pointer (some ⟨w.heap.size + 2, 0, none⟩), .int .i64 (i : Nat), .pointer (some ⟨b', 0, none⟩), tabV U, .func (.func 42) #[] #[.pointer (some ⟨w.heap.size + 3, 0, none⟩)], .int .i64 (i : Nat), entV (rowT U i), undef, undef, undef, undef, undef, undef, undef, undef, undef, undef, undef, undef, undef, undef, undef, undef, undef], defers := [] }) ?assign ?body ?done ?stop
  case assign =>
    intro l x W K hK
    simp only [encR] at hK ⊢
    gi_wp2
    exact hK
  case stop =>
    rintro D c pre W hD _ h
    exact h.elim
  case done =>
    rintro D ys W hD rfl ⟨hB, hT, hU, hR⟩ hK
    have hT : NB w.heap.size 26 65 (mgT T U 16) W := hT
    have c0 := nb_cell hT (o := 0) (by omega)
    rw [mgT_ver] at c0
    have d0 := nb_cell hU (o := 0) (by omega)
    have g0 := nb_frozen hT 0
    have H2 := Lib.hid (And.intro hB (And.intro hT (And.intro hR (And.intro hK (show w.heap.size + 4 ≤ D by omega)))))
    have HMG := Lib.hid (show mg T U = upd (mgT T U 16) 0 (max (T 0) (U 0)) from rfl)
    clear hB hT hU hR hK hD
    generalize T 0 = t0 at *
    generalize U 0 = s0 at *
    by_cases hm : t0 < s0
    · have hmx := Lib.hid (show max t0 s0 = s0 by omega)
      gi_upto_region 7 with fail
      obtain ⟨hB, hT, hR, hK, hD⟩ := H2.out
      have hT6 : NB w.heap.size 26 65 (mg T U) (W.setCell ⟨w.heap.size, 0, none⟩ (.int .i64 s0)) := by rw [HMG.out, hmx.out]; exact nb_put hT 0 s0
      have hR6 : NB (w.heap.size + 2) 26 65 zeroT (W.setCell ⟨w.heap.size, 0, none⟩ (.int .i64 s0)) := (Below.heap_setCell W ⟨w.heap.size, 0, none⟩ (.int .i64 s0) (w.heap.size + 2) (by simp)).trans hR
      have hB6 : Below w.heap.size w (W.setCell ⟨w.heap.size, 0, none⟩ (.int .i64 s0)) := hB.setCell (p := ⟨w.heap.size, 0, none⟩) (Nat.le_refl _) (.int .i64 s0)
      have hK6 : (W.setCell ⟨w.heap.size, 0, none⟩ (.int .i64 s0)).heap[D]? = some (.deferred (some [])) := (Below.heap_setCell W ⟨w.heap.size, 0, none⟩ (.int .i64 s0) D (by show D ≠ w.heap.size; omega)).trans hK
      have HD := Lib.hid hD
      clear hB hT hR hK hD H2 c0 d0 g0 hm
      generalize W.setCell ⟨w.heap.size, 0, none⟩ (.int .i64 s0) = W6 at *
      have l6 := ld_tab hT6
      have s6 := st_tab hR6 (mg T U)
      have HS := Lib.hid (nb_full hR6 (mg T U))
      have HX := Lib.hid (below_setCells (w.heap.size + 2) (by omega) (numL 65 (mg T U)) 0 w _ hB6)
      have HK := Lib.hid ((nb_other (b := w.heap.size + 2) (k := D) (by have := HD.out; omega) (numL 65 (mg T U)) 0 W6).trans hK6)
      clear hT6 hR6 hB6 hK6
      gi_wp2
      refine ⟨by simp, .inl ⟨_, _, rfl, run_takeDeferred HK.out, ?_⟩⟩
      refine ⟨_, results_cell_row rfl _ _ (w.heap.size + 2) 26 _ (0, 0) _ rfl ((World.putObj_heap_other (by have := HD.out; omega)).trans HS.out) Try.undT rfl (by rw [List.size_toArray, numL_len]; exact Try.sizT), rfl, HX.out.trans (belowK_b (w := w) (Nat.le_refl _) _ D _ _ (by have := HD.out; omega) HK.out rfl rfl)⟩
    · have hmx := Lib.hid (show max t0 s0 = t0 by omega)
      gi_upto_region 7 with fail
      obtain ⟨hB, hT, hR, hK, hD⟩ := H2.out
      have hT6 : NB w.heap.size 26 65 (mg T U) (W.setCell ⟨w.heap.size, 0, none⟩ (.int .i64 t0)) := by rw [HMG.out, hmx.out]; exact nb_put hT 0 t0
      have hR6 : NB (w.heap.size + 2) 26 65 zeroT (W.setCell ⟨w.heap.size, 0, none⟩ (.int .i64 t0)) := (Below.heap_setCell W ⟨w.heap.size, 0, none⟩ (.int .i64 t0) (w.heap.size + 2) (by simp)).trans hR
      have hB6 : Below w.heap.size w (W.setCell ⟨w.heap.size, 0, none⟩ (.int .i64 t0)) := hB.setCell (p := ⟨w.heap.size, 0, none⟩) (Nat.le_refl _) (.int .i64 t0)
      have hK6 : (W.setCell ⟨w.heap.size, 0, none⟩ (.int .i64 t0)).heap[D]? = some (.deferred (some [])) := (Below.heap_setCell W ⟨w.heap.size, 0, none⟩ (.int .i64 t0) D (by show D ≠ w.heap.size; omega)).trans hK
      have HD := Lib.hid hD
      clear hB hT hR hK hD H2 c0 d0 g0 hm
      generalize W.setCell ⟨w.heap.size, 0, none⟩ (.int .i64 t0) = W6 at *
      have l6 := ld_tab hT6
      have s6 := st_tab hR6 (mg T U)
      have HS := Lib.hid (nb_full hR6 (mg T U))
      have HX := Lib.hid (below_setCells (w.heap.size + 2) (by omega) (numL 65 (mg T U)) 0 w _ hB6)
      have HK := Lib.hid ((nb_other (b := w.heap.size + 2) (k := D) (by have := HD.out; omega) (numL 65 (mg T U)) 0 W6).trans hK6)
      clear hT6 hR6 hB6 hK6
      gi_wp2
      refine ⟨by simp, .inl ⟨_, _, rfl, run_takeDeferred HK.out, ?_⟩⟩
      refine ⟨_, results_cell_row rfl _ _ (w.heap.size + 2) 26 _ (0, 0) _ rfl ((World.putObj_heap_other (by have := HD.out; omega)).trans HS.out) Try.undT rfl (by rw [List.size_toArray, numL_len]; exact Try.sizT), rfl, HX.out.trans (belowK_b (w := w) (Nat.le_refl _) _ D _ _ (by have := HD.out; omega) HK.out rfl rfl)⟩
  case body =>
    rintro l pre i W b' ⟨hB, hT, hU, hR⟩ ⟨hpre, hi16⟩ hb1 hb2 hbx
    subst hpre
    rw [List.length_range] at hT
    have hk1 : (i : Int) < 16 := by omega
    have hst := fun h : nwP T U i = true => mgT_yes h
    have hno := fun h : nwP T U i = false => mgT_no h
    have hdef : nwP T U i = decide ((rowT T i).2.2.1 < (rowT U i).2.2.1) := rfl
    have q : W.rangeAt w.heap.size (1 + i * 4) (entC (rowT T i)) := by rw [← mgT_row T U i]; exact rng_row hT i hi16
    generalize nwP T U i = p at *
    generalize rowT T i = u at *
    generalize rowT U i = v at *
    obtain ⟨u0, u1, u2, u3⟩ := u
    obtain ⟨v0, v1, v2, v3⟩ := v
    have KN := Lib.hid (fun W => hdef ▸ eNewer_any v0 v1 v2 v3 u0 u1 u2 u3 W)
    obtain ⟨x0, x1, x2, x3⟩ := ent_of_range _ _ _ _ q
    obtain ⟨y0, y1, y2, y3⟩ := ent_cells _ _ _ _ hbx
    have CN := Lib.hid (fun W2 (m : Below W.heap.size W W2) => And.intro (hB.trans (m.mono hB.size)) (And.intro (bb hT m) (And.intro (bb hU m) (And.intro (bb hR m) (And.intro (bb hbx m) (show KeepsFrom (w.heap.size + 4) W W2 from ⟨m.size, fun k o' _ hk _ => (m.block k (Array.getElem?_eq_some_iff.1 hk).1).trans hk⟩))))))
    have HST := Lib.hid hst
    have HNO := Lib.hid hno
    have hHB := Lib.hid hb1
    clear hst hno hdef q hB hT hU hR hbx hb1 hb2
    gi_wp2_with fail
    refine region_any_inRound l rfl (by kernel_rfl) (by kernel_rfl) ?_
    try (change wpAnyIn _ _ _ _ _ _ _ _ _ (World.drew _))
    replace x0 : W.drew.cell? ⟨w.heap.size, 1 + i * 4, none⟩ = some (.int .i64 u0) := x0
    replace x1 : W.drew.cell? ⟨w.heap.size, 1 + i * 4 + 1, none⟩ = some (.int .i64 u1) := x1
    replace x2 : W.drew.cell? ⟨w.heap.size, 1 + i * 4 + 2, none⟩ = some (.int .i64 u2) := x2
    replace x3 : W.drew.cell? ⟨w.heap.size, 1 + i * 4 + 3, none⟩ = some (.int .i64 u3) := x3
    replace y0 : W.drew.cell? ⟨b', 0, none⟩ = some (.int .i64 v0) := y0
    replace y1 : W.drew.cell? ⟨b', 1, none⟩ = some (.int .i64 v1) := y1
    replace y2 : W.drew.cell? ⟨b', 2, none⟩ = some (.int .i64 v2) := y2
    replace y3 : W.drew.cell? ⟨b', 3, none⟩ = some (.int .i64 v3) := y3
    apply shareW (F := fun V' => Below W.heap.size W V')
    · intro h1
      refine takeV (i := 1) (d := some 12) rfl rfl rfl (by kernel_rfl) (by kernel_rfl) (by kernel_rfl) (fun _ _ _ h => h) (by kernel_rfl) (by intro w; go_simp; try with_reducible rfl) (fun _ => rfl) ?_
      refine takeV (i := 2) (d := some 13) rfl rfl rfl (by kernel_rfl) (by kernel_rfl) (by kernel_rfl) (fun _ _ _ h => h) (by kernel_rfl) (by intro w; go_simp; try with_reducible rfl) (fun _ => rfl) ?_
      refine takeV (i := 3) (d := some 14) rfl rfl rfl (by kernel_rfl) (by kernel_rfl) (by kernel_rfl) (fun _ _ _ h => h) (by kernel_rfl) (by intro w; go_simp; try with_reducible rfl) (fun _ => rfl) ?_
      refine wpAnyIn_ready (rs := [0, 4]) (by kernel_rfl) (by simp) ?_
      refine AllReadyIn.cons rfl (fun K hK => ?_) (AllReadyIn.cons rfl (fun K hK => ?_) AllReadyIn.nil)
      · go_simp
        refine hK _ _ ?_
        clear hK K
        refine wpAnyIn_ready (rs := [4]) (by kernel_rfl) (by simp) ?_
        refine AllReadyIn.cons rfl (fun K hK => ?_) AllReadyIn.nil
        go_simp
        refine hK _ _ ?_
        clear hK K
        refine wpAnyIn_ready (rs := [5]) (by kernel_rfl) (by simp) ?_
        refine AllReadyIn.cons rfl (fun K hK => ?_) AllReadyIn.nil
        go_simp
        refine ⟨trivial, (fun _ => by omega), callsIn_wide.2 ((KN.out _).mono ?_)⟩
        rintro e w2 ⟨rfl, m2⟩
        refine hK _ _ ?_
        clear hK K
        refine wpAnyIn_done (by kernel_rfl) ?_ _
        exact h1 w2 (below_drew m2)
      · go_simp
        refine hK _ _ ?_
        clear hK K
        refine wpAnyIn_ready (rs := [0]) (by kernel_rfl) (by simp) ?_
        refine AllReadyIn.cons rfl (fun K hK => ?_) AllReadyIn.nil
        go_simp
        refine hK _ _ ?_
        clear hK K
        refine wpAnyIn_ready (rs := [5]) (by kernel_rfl) (by simp) ?_
        refine AllReadyIn.cons rfl (fun K hK => ?_) AllReadyIn.nil
        go_simp
        refine ⟨trivial, (fun _ => by omega), callsIn_wide.2 ((KN.out _).mono ?_)⟩
        rintro e w2 ⟨rfl, m2⟩
        refine hK _ _ ?_
        clear hK K
        refine wpAnyIn_done (by kernel_rfl) ?_ _
        exact h1 w2 (below_drew m2)
    · intro w2 m2
      clear x0 x1 x2 x3 y0 y1 y2 y3
      obtain ⟨hB, hT, hU, hR, hbx, hKF⟩ := CN.out w2 m2
      have hlen : (List.range i ++ [i]).length = i + 1 := by rw [List.length_append, List.length_range]; rfl
      have HLEN := Lib.hid hlen
      have HKF := Lib.hid hKF
      clear m2 CN KN hlen hKF
      cases p
      · have H2 := Lib.hid (show MrI T U w (List.range i ++ [i]) w2 from ⟨hB, by rw [HLEN.out]; exact nb_congr hT (fun o _ => HNO.out rfl o), hU, hR⟩)
        clear hB hT hU hR hbx
        gi_wp2
        exact ⟨HKF.out, trivial, H2.out⟩
      · obtain ⟨x0, x1, x2, x3⟩ := ent_of_range _ _ _ _ (show w2.rangeAt w.heap.size (1 + i * 4) (entC ((rowT (mgT T U i) i).1, (rowT (mgT T U i) i).2.1, (rowT (mgT T U i) i).2.2.1, (rowT (mgT T U i) i).2.2.2)) from rng_row hT i hi16)
        obtain ⟨y0, y1, y2, y3⟩ := ent_cells _ _ _ _ hbx
        have f0 := nb_frozen hT (1 + i * 4)
        have f1 := nb_frozen hT (1 + i * 4 + 1)
        have f2 := nb_frozen hT (1 + i * 4 + 2)
        have f3 := nb_frozen hT (1 + i * 4 + 3)
        have H2 := Lib.hid (show MrI T U w (List.range i ++ [i]) ((((w2.setCell ⟨w.heap.size, 1 + i * 4, none⟩ (.int .i64 v0)).setCell ⟨w.heap.size, 1 + i * 4 + 1, none⟩ (.int .i64 v1)).setCell ⟨w.heap.size, 1 + i * 4 + 2, none⟩ (.int .i64 v2)).setCell ⟨w.heap.size, 1 + i * 4 + 3, none⟩ (.int .i64 v3)) from
          ⟨below_setCells w.heap.size (Nat.le_refl _) [.int .i64 v0, .int .i64 v1, .int .i64 v2, .int .i64 v3] (1 + i * 4) w _ hB, by rw [HLEN.out]; exact nb_congr (nb_row hT i (v0, v1, v2, v3)) (fun o _ => HST.out rfl o), (nb_other (b := w.heap.size) (k := w.heap.size + 1) (by omega) [.int .i64 v0, .int .i64 v1, .int .i64 v2, .int .i64 v3] (1 + i * 4) w2).trans hU, (nb_other (b := w.heap.size) (k := w.heap.size + 2) (by omega) [.int .i64 v0, .int .i64 v1, .int .i64 v2, .int .i64 v3] (1 + i * 4) w2).trans hR⟩)
        have HO := Lib.hid (show KeepsFrom (w.heap.size + 4) w2 ((((w2.setCell ⟨w.heap.size, 1 + i * 4, none⟩ (.int .i64 v0)).setCell ⟨w.heap.size, 1 + i * 4 + 1, none⟩ (.int .i64 v1)).setCell ⟨w.heap.size, 1 + i * 4 + 2, none⟩ (.int .i64 v2)).setCell ⟨w.heap.size, 1 + i * 4 + 3, none⟩ (.int .i64 v3)) from (others_setCells w.heap.size [.int .i64 v0, .int .i64 v1, .int .i64 v2, .int .i64 v3] (1 + i * 4) w2).from _)
        clear hB hT hU hR hbx
        gi_wp2
        exact ⟨HKF.out.trans HO.out, trivial, H2.out⟩

theorem merge_any (T U : Nat → Int) (w : World) : Calls Try.prog 25 #[tabV T, tabV U] w fun e w' => e = .returned (tabV (mg T U)) ∧ Below w.heap.size w w' :=
  callsIn_wide.1 (merge_in 4 (by omega) T U w)
end Go.Proofs.Ytanbkbppahgbgaa
