/- The document's own Take of wraps. -/
import Derived.Test.YthenbpnlmpeafaaDoorEnC
namespace Go.Proofs.YthenbpnlmpeafaaDoor
open Go.RowKit Go.Shelf
open SumM
attribute [local go_sem ↓] Go.wp_at_zero Go.wp_at_succ

theorem otV_nums' {bs : List Int} (hin : In 255 bs) (h : otY bs = 0) : ONums (otV bs).1 (otV bs).2.1 (otV bs).2.2.1 (otV bs).2.2.2.1 (otV bs).2.2.2.2.1 (otV bs).2.2.2.2.2 := by
  obtain ⟨_, h1, _⟩ := otY_zero h
  obtain ⟨g1, g2, g3, g4, g5, g6⟩ := optOk_iff.1 h1
  have k2 := getD_in hin (by decide) 2
  have k3 := getD_in hin (by decide) 3
  exact ⟨k2, k3, by omega, by omega, by omega, by omega⟩

/-- What bytes would be, if they were a wrap's: options, the bytes borne; whether they are just that wrap's. -/
def etOpt (bs : List Int) : List Int := (bs.take (hlOf bs)).drop 20
def etIn (bs : List Int) : List Int := bs.drop (hlOf bs)
def etZ (bs : List Int) : List Int :=
  enZ (nodV (segAt bs 8)).1 (nodV (segAt bs 8)).2 (nodV (segAt bs 9)).1 (nodV (segAt bs 9)).2 (otV (etOpt bs)).1 (otV (etOpt bs)).2.1 (otV (etOpt bs)).2.2.1 (otV (etOpt bs)).2.2.2.1 (otV (etOpt bs)).2.2.2.2.1 (otV (etOpt bs)).2.2.2.2.2 (etIn bs)
def etOk (bs : List Int) : Bool := decide (whyOf bs = 0) && decide (otY (etOpt bs) = 0) && nodB (segAt bs 8) && nodB (segAt bs 9) && eqB (etZ bs) bs
def EnTakeRet (bs : List Int) (w : World) (e : Ending) (w' : World) : Prop :=
  (etOk bs = false ∧ e = .returned (.tuple #[.agg #[.int .u8 0, .int .i64 0, .int .u8 0, .int .i64 0, .int .u8 0, .int .u8 0, .int .i64 0, .int .i64 0, .int .i64 0, .int .i64 0, .slice none 0 0], .int .u8 13]) ∧ Below w.heap.size w w') ∨
  (etOk bs = true ∧ ∃ A c, e = .returned (.tuple #[.agg #[.int .u8 (nodV (segAt bs 8)).1, .int .i64 (nodV (segAt bs 8)).2, .int .u8 (nodV (segAt bs 9)).1, .int .i64 (nodV (segAt bs 9)).2, .int .u8 (otV (etOpt bs)).1, .int .u8 (otV (etOpt bs)).2.1, .int .i64 (otV (etOpt bs)).2.2.1, .int .i64 (otV (etOpt bs)).2.2.2.1, .int .i64 (otV (etOpt bs)).2.2.2.2.1, .int .i64 (otV (etOpt bs)).2.2.2.2.2, .slice A (etIn bs).length c], .int .u8 0]) ∧
    w'.ownsRow w.heap.size 5 1 (.slice A (etIn bs).length c) (etIn bs).length ((etIn bs).map (Value.int .u8)) ∧ Below w.heap.size w w')

theorem Tryd.infoWr : (Tryd.prog.info? 29).map (·.size) = some 11 := by kernel_rfl
theorem results_wr {fn : Func} {p u : Tmp} (h : fn.results = #[.cell p 29, .tmp u]) (tmps : Array Value) (w : World) (g : Nat) (cs : Array Value) (fr : Nat × Nat)
    (hp : tmps.getD p undef = .pointer (some ⟨g, 0, none⟩)) (hg : w.heap[g]? = some (.cells cs 29 fr)) (h9 : cs.size = 11) :
    (results fn tmps).run Tryd.prog w = .ok (.tuple #[.agg cs, tmps.getD u undef]) w := by
  rw [results_cell_tmp h, hp]
  simp only [asAddr, Sem.run_pure, Result.andThen_ok]
  rw [run_loadVar_row w g 29 29 cs fr _ hg Tryd.underlying29 rfl (by rw [h9]; exact Tryd.infoWr)]
  rfl
theorem wr_frozen {w : World} {b : Nat} {cs : Array Value} {t : TypeId} (h : w.heap[b]? = some (.cells cs t (0, 0))) (i : Nat) : w.frozen? ⟨b, i, none⟩ = false := by simp [World.frozen?, h]
theorem blk_al {W : World} {k : Nat} {o : Obj} (h : W.heap[k]? = some o) (o' : Obj) : (W.alloc o').heap[k]? = some o :=
  (Below.heap_alloc _ _ _ (Array.getElem?_eq_some_iff.1 h).1).trans h
/-- The way out that tells nothing. -/
theorem etNo {bs : List Int} {w W : World} (hno : etOk bs = false) (hb : Below w.heap.size w W) : EnTakeRet bs w (.returned (.tuple #[.agg #[.int .u8 0, .int .i64 0, .int .u8 0, .int .i64 0, .int .u8 0, .int .u8 0, .int .i64 0, .int .i64 0, .int .i64 0, .int .i64 0, .slice none 0 0], .int .u8 13])) W := .inl ⟨hno, rfl, hb⟩

set_option maxRecDepth 100000 in
set_option maxHeartbeats 8000000 in
theorem r7Take_any (a : Option Addr) (len cap : Nat) (bs : List Int) (hlen : bs.length = len) (hlc : len ≤ cap) (hc : cap ≤ 9223372036854775807) (hln : len ≤ 1000000) (w : World) (hR : Row .u8 w.heap.size w a bs) :
    Calls Tryd.prog 16 #[.slice a len cap] w (EnTakeRet bs w) := by
  have HI := Lib.hid (row_in hR)
  have bR := heap_alloc_new w (.cells #[.int .u8 0, .int .i64 0, .int .u8 0, .int .i64 0, .int .u8 0, .int .u8 0, .int .i64 0, .int .i64 0, .int .i64 0, .int .i64 0, .slice none 0 0] 29)
  have L0 : Below w.heap.size w (w.alloc (.cells #[.int .u8 0, .int .i64 0, .int .u8 0, .int .i64 0, .int .u8 0, .int .u8 0, .int .i64 0, .int .i64 0, .int .i64 0, .int .i64 0, .slice none 0 0] 29)) := (Below.refl _ w).alloc (Nat.le_refl _) _
  have RS := Lib.hid (fun W (m : Below w.heap.size w W) => (hR.below m).more m.size)
  have L0s := L0.size
  have HL := Lib.hid hlen
  have HLN := Lib.hid (And.intro hln (And.intro hlc hc))
  clear hR hlen
  go_enter Tryd.func16, Tryd.ntmps16
  go_upto_region 1 with (fail)
  generalize w.alloc (.cells #[.int .u8 0, .int .i64 0, .int .u8 0, .int .i64 0, .int .u8 0, .int .u8 0, .int .i64 0, .int .i64 0, .int .i64 0, .int .i64 0, .slice none 0 0] 29) = W0 at *
  go_wp2_with (fail)
  refine (refParse_any a len cap bs HL.out hlc hc hln W0 (RS.out W0 L0)).mono ?_
  rintro e w1 (⟨hy, rfl, m1⟩ | ⟨hy, v, rfl, oa, oc, pa, pc, rfl, ho, hp, m1⟩)
  · have L1 := L0.trans (m1.mono L0.size)
    have bR1 := (m1.block _ (Array.getElem?_eq_some_iff.1 bR).1).trans bR
    have p1 : (whyOf bs != 0) = true := by simpa using hy
    have HNO := Lib.hid (show etOk bs = false by unfold etOk; rw [decide_eq_false hy]; rfl)
    generalize whyOf bs = y at *
    clear bR L0 m1 hy
    go_upto_region 2 with (fail)
    have bR2 := blk_al bR1 (.cells #[.int .u8 0, .int .u16 0, .int .u16 0, .int .u8 0, .int .u8 0, .int .u32 0, .int .u32 0, .slice none 0 0, .slice none 0 0] 51)
    have L2 := L1.alloc L1.size (.cells #[.int .u8 0, .int .u16 0, .int .u16 0, .int .u8 0, .int .u8 0, .int .u32 0, .int .u32 0, .slice none 0 0, .slice none 0 0] 51)
    generalize w1.alloc (.cells #[.int .u8 0, .int .u16 0, .int .u16 0, .int .u8 0, .int .u8 0, .int .u32 0, .int .u32 0, .slice none 0 0, .slice none 0 0] 51) = W2 at *
    obtain ⟨q0, q1, q2, q3, q4, q5, q6, q7, q8, q9, q10⟩ := wr_cells _ _ _ _ _ _ _ _ _ _ _ _ _ bR2
    have f0 := wr_frozen bR2 0
    have f1 := wr_frozen bR2 1
    have f2 := wr_frozen bR2 2
    have f3 := wr_frozen bR2 3
    have f4 := wr_frozen bR2 4
    have f5 := wr_frozen bR2 5
    have f6 := wr_frozen bR2 6
    have f7 := wr_frozen bR2 7
    have f8 := wr_frozen bR2 8
    have f9 := wr_frozen bR2 9
    have f10 := wr_frozen bR2 10
    have HD := Lib.hid bR2
    have HL2 := Lib.hid L2
    clear bR1 bR2 L1 L2
    go_wp2
    refine bodyPost_ret (results_wr rfl _ _ w.heap.size _ (0, 0) rfl (full_setCells HD.out [.int .u8 0, .int .i64 0, .int .u8 0, .int .i64 0, .int .u8 0, .int .u8 0, .int .i64 0, .int .i64 0, .int .i64 0, .int .i64 0, .slice none 0 0] rfl) rfl) rfl ?_
    exact etNo HNO.out (below_setCells w.heap.size (Nat.le_refl _) [.int .u8 0, .int .i64 0, .int .u8 0, .int .i64 0, .int .u8 0, .int .u8 0, .int .i64 0, .int .i64 0, .int .i64 0, .int .i64 0, .slice none 0 0] 0 w _ HL2.out)
  · have L1 := L0.trans (m1.mono L0.size)
    have bR1 := (m1.block _ (Array.getElem?_eq_some_iff.1 bR).1).trans bR
    have p1 : (whyOf bs != 0) = false := by simpa using hy
    have h8 := segAt_in HI.out 8
    have h9 := segAt_in HI.out 9
    have hps := own_cap hp
    have hos := own_cap ho
    have hpl : (bs.drop (hlOf bs)).length ≤ 1000000 := by
      have := HL.out
      have := HLN.out.1
      simp
      omega
    have hpn := own_nil hp
    have RT := Lib.hid (Row.of_own hp (in_wf8 (in_drop HI.out (hlOf bs))))
    have RU := Lib.hid (Row.of_own ho (in_wf8 (in_drop (in_take HI.out (hlOf bs)) 20)))
    have HOW := Lib.hid hp
    have HW := Lib.hid hy
    have HKD := Lib.hid (show etOk bs = (decide (otY (etOpt bs) = 0) && nodB (segAt bs 8) && nodB (segAt bs 9) && eqB (etZ bs) bs) by unfold etOk; rw [decide_eq_true hy]; rfl)
    clear bR L0 ho hp p1
    generalize hS1 : segAt bs 1 % 256 = s1 at *
    generalize hS3 : segAt bs 3 % 65536 = s3 at *
    generalize hS4 : segAt bs 4 % 65536 = s4 at *
    generalize hS5 : segAt bs 5 % 256 = s5 at *
    generalize hS6 : segAt bs 6 % 256 = s6 at *
    obtain ⟨s8, hS8⟩ : ∃ x, segAt bs 8 = x := ⟨_, rfl⟩
    obtain ⟨s9, hS9⟩ : ∃ x, segAt bs 9 = x := ⟨_, rfl⟩
    rw [hS8] at h8
    rw [hS9] at h9
    rw [hS8, hS9]
    have TBE : bs.drop (hlOf bs) = etIn bs := rfl
    have TOE : (bs.take (hlOf bs)).drop 20 = etOpt bs := rfl
    rw [TBE] at hps hpl RT HOW
    rw [TOE] at hos RU
    rw [TBE, TOE]
    obtain ⟨tb, hTB⟩ : ∃ x, etIn bs = x := ⟨_, rfl⟩
    obtain ⟨ob, hOB⟩ : ∃ x, etOpt bs = x := ⟨_, rfl⟩
    rw [hTB] at hps hpl RT HOW
    rw [hOB] at hos RU
    rw [hTB, hOB]
    obtain ⟨tn, hTN⟩ : ∃ n, tb.length = n := ⟨_, rfl⟩
    obtain ⟨on, hON⟩ : ∃ n, ob.length = n := ⟨_, rfl⟩
    rw [hTN] at hps hpl HOW
    rw [hON] at hos
    rw [hTN, hON]
    have HQ := Lib.hid (show segAt bs 8 = s8 ∧ segAt bs 9 = s9 ∧ etIn bs = tb ∧ etOpt bs = ob ∧ tb.length = tn ∧ ob.length = on from ⟨hS8, hS9, hTB, hOB, hTN, hON⟩)
    clear hS1 hS3 hS4 hS5 hS6 hS8 hS9 hTB hOB hTN hON hy TBE TOE
    go_upto_region 2 with (fail)
    have bH := heap_alloc_new w1 (.cells #[.int .u8 s1, .int .u16 s3, .int .u16 s4, .int .u8 s5, .int .u8 s6, .int .u32 s8, .int .u32 s9, .slice oa on oc, .slice pa tn pc] 51)
    have bR2 := blk_al bR1 (.cells #[.int .u8 s1, .int .u16 s3, .int .u16 s4, .int .u8 s5, .int .u8 s6, .int .u32 s8, .int .u32 s9, .slice oa on oc, .slice pa tn pc] 51)
    have L2 := L1.alloc L1.size (.cells #[.int .u8 s1, .int .u16 s3, .int .u16 s4, .int .u8 s5, .int .u8 s6, .int .u32 s8, .int .u32 s9, .slice oa on oc, .slice pa tn pc] 51)
    have l2 := (Below.refl w1.heap.size w1).alloc (Nat.le_refl _) (.cells #[.int .u8 s1, .int .u16 s3, .int .u16 s4, .int .u8 s5, .int .u8 s6, .int .u32 s8, .int .u32 s9, .slice oa on oc, .slice pa tn pc] 51)
    have RT2 := Lib.hid (RT.out.allocS (.cells #[.int .u8 s1, .int .u16 s3, .int .u16 s4, .int .u8 s5, .int .u8 s6, .int .u32 s8, .int .u32 s9, .slice oa on oc, .slice pa tn pc] 51))
    have RU2 := Lib.hid (RU.out.allocS (.cells #[.int .u8 s1, .int .u16 s3, .int .u16 s4, .int .u8 s5, .int .u8 s6, .int .u32 s8, .int .u32 s9, .slice oa on oc, .slice pa tn pc] 51))
    have HOW2 := Lib.hid (own_base (own_below HOW.out l2) L0s)
    generalize w1.alloc (.cells #[.int .u8 s1, .int .u16 s3, .int .u16 s4, .int .u8 s5, .int .u8 s6, .int .u32 s8, .int .u32 s9, .slice oa on oc, .slice pa tn pc] 51) = W2 at *
    generalize w1.heap.size = bh at *
    obtain ⟨x0, x1, x2, x3, x4, x5, x6, x7, x8⟩ := head_cells _ _ _ _ _ _ _ _ _ _ _ _ _ bH
    clear bR1 L1 RT RU HOW l2 m1
    go_wp2_with (fail)
    obtain ⟨oy, hoy⟩ : ∃ y, otY ob = y := ⟨_, rfl⟩
    obtain ⟨⟨f0, f1, f2, f3, f4, f5⟩, hof⟩ : ∃ f, otF ob = f := ⟨_, rfl⟩
    have KT := Lib.hid (show Calls Tryd.prog 37 #[.slice oa on oc] W2 fun e w' => e = .returned (.tuple #[.agg #[.int .u8 f0, .int .u8 f1, .int .i64 f2, .int .i64 f3, .int .i64 f4, .int .i64 f5], .int .i64 oy]) ∧ Below W2.heap.size W2 w' from by
      have h := refOTake_any oa on oc ob HQ.out.2.2.2.2.2 hos.1 W2 RU2.out
      unfold OTakeRet at h
      rwa [hof, hoy] at h)
    obtain ⟨⟨d0, d1⟩, hd8⟩ : ∃ v, nodV s8 = v := ⟨_, rfl⟩
    obtain ⟨⟨d2, d3⟩, hd9⟩ : ∃ v, nodV s9 = v := ⟨_, rfl⟩
    obtain ⟨n8, hn8⟩ : ∃ v, nodB s8 = v := ⟨_, rfl⟩
    obtain ⟨n9, hn9⟩ : ∃ v, nodB s9 = v := ⟨_, rfl⟩
    have KN := Lib.hid (fun W => show Calls Tryd.prog 12 #[.int .u32 s8] W fun e w' => e = .returned (.tuple #[.agg #[.int .u8 d0, .int .i64 d1], .bool n8]) ∧ Below W.heap.size W w' from by
      have h := r7Node_any s8 W
      rwa [hd8, hn8] at h)
    have KM := Lib.hid (fun W => show Calls Tryd.prog 12 #[.int .u32 s9] W fun e w' => e = .returned (.tuple #[.agg #[.int .u8 d2, .int .i64 d3], .bool n9]) ∧ Below W.heap.size W w' from by
      have h := r7Node_any s9 W
      rwa [hd9, hn9] at h)
    have HF := Lib.hid (show otY ob = oy ∧ otF ob = (f0, f1, f2, f3, f4, f5) ∧ nodV s8 = (d0, d1) ∧ nodV s9 = (d2, d3) ∧ nodB s8 = n8 ∧ nodB s9 = n9 from ⟨hoy, hof, hd8, hd9, hn8, hn9⟩)
    clear hoy hof hd8 hd9 hn8 hn9 hos h8 h9
    refine (KT.out).mono ?_
    rintro e w3 ⟨rfl, m3⟩
    have L_w3 := L2.trans (m3.mono L2.size)
    have bR_w3 := (m3.block _ (Array.getElem?_eq_some_iff.1 bR2).1).trans bR2
    clear bR2
    have bH_w3 := (m3.block _ (Array.getElem?_eq_some_iff.1 bH).1).trans bH
    clear bH
    have RT_w3 := Lib.hid ((RT2.out.below m3).more m3.size)
    have HW_w3 := Lib.hid (own_below HOW2.out m3)
    clear L2 m3 RT2 HOW2
    clear RU2 KT x0 x1 x2 x3 x4 x5 x6 x7 x8
    go_upto_region 5 with (fail)
    have bO := heap_alloc_new w3 (.cells #[.int .u8 f0, .int .u8 f1, .int .i64 f2, .int .i64 f3, .int .i64 f4, .int .i64 f5] 26)
    have L_W4 := L_w3.alloc L_w3.size (.cells #[.int .u8 f0, .int .u8 f1, .int .i64 f2, .int .i64 f3, .int .i64 f4, .int .i64 f5] 26)
    have bR_W4 := blk_al bR_w3 (.cells #[.int .u8 f0, .int .u8 f1, .int .i64 f2, .int .i64 f3, .int .i64 f4, .int .i64 f5] 26)
    clear bR_w3
    have bH_W4 := blk_al bH_w3 (.cells #[.int .u8 f0, .int .u8 f1, .int .i64 f2, .int .i64 f3, .int .i64 f4, .int .i64 f5] 26)
    clear bH_w3
    have RT_W4 := Lib.hid (RT_w3.out.allocS (.cells #[.int .u8 f0, .int .u8 f1, .int .i64 f2, .int .i64 f3, .int .i64 f4, .int .i64 f5] 26))
    have HW_W4 := Lib.hid (HW_w3.out.alloc (.cells #[.int .u8 f0, .int .u8 f1, .int .i64 f2, .int .i64 f3, .int .i64 f4, .int .i64 f5] 26))
    clear L_w3 RT_w3 HW_w3
    generalize w3.alloc (.cells #[.int .u8 f0, .int .u8 f1, .int .i64 f2, .int .i64 f3, .int .i64 f4, .int .i64 f5] 26) = W4 at *
    generalize w3.heap.size = aO at *
    obtain ⟨x0, x1, x2, x3, x4, x5, x6, x7, x8⟩ := head_cells _ _ _ _ _ _ _ _ _ _ _ _ _ bH_W4
    go_wp2_with (fail)
    refine (KN.out W4).mono ?_
    rintro e w5 ⟨rfl, m5⟩
    have L_w5 := L_W4.trans (m5.mono L_W4.size)
    have bR_w5 := (m5.block _ (Array.getElem?_eq_some_iff.1 bR_W4).1).trans bR_W4
    clear bR_W4
    have bH_w5 := (m5.block _ (Array.getElem?_eq_some_iff.1 bH_W4).1).trans bH_W4
    clear bH_W4
    have bO_w5 := (m5.block _ (Array.getElem?_eq_some_iff.1 bO).1).trans bO
    clear bO
    have RT_w5 := Lib.hid ((RT_W4.out.below m5).more m5.size)
    have HW_w5 := Lib.hid (own_below HW_W4.out m5)
    clear L_W4 m5 RT_W4 HW_W4
    clear x0 x1 x2 x3 x4 x5 x6 x7 x8
    go_upto_region 6 with (fail)
    have bF := heap_alloc_new w5 (.cells #[.int .u8 d0, .int .i64 d1] 23)
    have L_W6 := L_w5.alloc L_w5.size (.cells #[.int .u8 d0, .int .i64 d1] 23)
    have bR_W6 := blk_al bR_w5 (.cells #[.int .u8 d0, .int .i64 d1] 23)
    clear bR_w5
    have bH_W6 := blk_al bH_w5 (.cells #[.int .u8 d0, .int .i64 d1] 23)
    clear bH_w5
    have bO_W6 := blk_al bO_w5 (.cells #[.int .u8 d0, .int .i64 d1] 23)
    clear bO_w5
    have RT_W6 := Lib.hid (RT_w5.out.allocS (.cells #[.int .u8 d0, .int .i64 d1] 23))
    have HW_W6 := Lib.hid (HW_w5.out.alloc (.cells #[.int .u8 d0, .int .i64 d1] 23))
    clear L_w5 RT_w5 HW_w5
    generalize w5.alloc (.cells #[.int .u8 d0, .int .i64 d1] 23) = W6 at *
    generalize w5.heap.size = aF at *
    obtain ⟨x0, x1, x2, x3, x4, x5, x6, x7, x8⟩ := head_cells _ _ _ _ _ _ _ _ _ _ _ _ _ bH_W6
    go_wp2_with (fail)
    refine (KM.out W6).mono ?_
    rintro e w7 ⟨rfl, m7⟩
    have L_w7 := L_W6.trans (m7.mono L_W6.size)
    have bR_w7 := (m7.block _ (Array.getElem?_eq_some_iff.1 bR_W6).1).trans bR_W6
    clear bR_W6
    have bH_w7 := (m7.block _ (Array.getElem?_eq_some_iff.1 bH_W6).1).trans bH_W6
    clear bH_W6
    have bO_w7 := (m7.block _ (Array.getElem?_eq_some_iff.1 bO_W6).1).trans bO_W6
    clear bO_W6
    have bF_w7 := (m7.block _ (Array.getElem?_eq_some_iff.1 bF).1).trans bF
    clear bF
    have RT_w7 := Lib.hid ((RT_W6.out.below m7).more m7.size)
    have HW_w7 := Lib.hid (own_below HW_W6.out m7)
    clear L_W6 m7 RT_W6 HW_W6
    clear x0 x1 x2 x3 x4 x5 x6 x7 x8
    go_upto_region 7 with (fail)
    have bT := heap_alloc_new w7 (.cells #[.int .u8 d2, .int .i64 d3] 23)
    have L_W8 := L_w7.alloc L_w7.size (.cells #[.int .u8 d2, .int .i64 d3] 23)
    have bR_W8 := blk_al bR_w7 (.cells #[.int .u8 d2, .int .i64 d3] 23)
    clear bR_w7
    have bH_W8 := blk_al bH_w7 (.cells #[.int .u8 d2, .int .i64 d3] 23)
    clear bH_w7
    have bO_W8 := blk_al bO_w7 (.cells #[.int .u8 d2, .int .i64 d3] 23)
    clear bO_w7
    have bF_W8 := blk_al bF_w7 (.cells #[.int .u8 d2, .int .i64 d3] 23)
    clear bF_w7
    have RT_W8 := Lib.hid (RT_w7.out.allocS (.cells #[.int .u8 d2, .int .i64 d3] 23))
    have HW_W8 := Lib.hid (HW_w7.out.alloc (.cells #[.int .u8 d2, .int .i64 d3] 23))
    clear L_w7 RT_w7 HW_w7
    generalize w7.alloc (.cells #[.int .u8 d2, .int .i64 d3] 23) = W8 at *
    generalize w7.heap.size = aT at *
    obtain ⟨x0, x1, x2, x3, x4, x5, x6, x7, x8⟩ := head_cells _ _ _ _ _ _ _ _ _ _ _ _ _ bH_W8
    clear KN KM
    have hcase : (oy != 0) = true ∨ ((oy != 0) = false ∧ n8 = false) ∨ ((oy != 0) = false ∧ n8 = true ∧ n9 = false) ∨ ((oy != 0) = false ∧ n8 = true ∧ n9 = true) := by
      cases n8 <;> cases n9 <;> cases (oy != 0) <;> simp
    have HR8 := Lib.hid bR_W8
    have HL8 := Lib.hid L_W8
    have NO : (oy ≠ 0 ∨ n8 = false ∨ n9 = false) → etOk bs = false := fun h => by
      rw [HKD.out, HQ.out.2.2.2.1, HQ.out.1, HQ.out.2.1, HF.out.1, HF.out.2.2.2.2.1, HF.out.2.2.2.2.2]
      rcases h with h | h | h
      · rw [decide_eq_false h]; rfl
      · rw [h]; simp
      · rw [h]; simp
    have HNO := Lib.hid NO
    clear NO
    rcases hcase with t1 | ⟨t1, rfl⟩ | ⟨t1, rfl, rfl⟩ | ⟨t1, rfl, rfl⟩
    · have HX := Lib.hid (HNO.out (.inl (by simpa using t1)))
      obtain ⟨q0, q1, q2, q3, q4, q5, q6, q7, q8, q9, q10⟩ := wr_cells _ _ _ _ _ _ _ _ _ _ _ _ _ bR_W8
      have g0 := wr_frozen bR_W8 0
      have g1 := wr_frozen bR_W8 1
      have g2 := wr_frozen bR_W8 2
      have g3 := wr_frozen bR_W8 3
      have g4 := wr_frozen bR_W8 4
      have g5 := wr_frozen bR_W8 5
      have g6 := wr_frozen bR_W8 6
      have g7 := wr_frozen bR_W8 7
      have g8 := wr_frozen bR_W8 8
      have g9 := wr_frozen bR_W8 9
      have g10 := wr_frozen bR_W8 10
      clear bR_W8 bH_W8 bO_W8 bF_W8 bT L_W8 x0 x1 x2 x3 x4 x5 x6 x7 x8 HNO
      go_wp2
      refine bodyPost_ret (results_wr rfl _ _ w.heap.size _ (0, 0) rfl (full_setCells HR8.out [.int .u8 0, .int .i64 0, .int .u8 0, .int .i64 0, .int .u8 0, .int .u8 0, .int .i64 0, .int .i64 0, .int .i64 0, .int .i64 0, .slice none 0 0] rfl) rfl) rfl ?_
      exact etNo HX.out (below_setCells w.heap.size (Nat.le_refl _) [.int .u8 0, .int .i64 0, .int .u8 0, .int .i64 0, .int .u8 0, .int .u8 0, .int .i64 0, .int .i64 0, .int .i64 0, .int .i64 0, .slice none 0 0] 0 w _ HL8.out)
    · have HX := Lib.hid (HNO.out (.inr (.inl rfl)))
      obtain ⟨q0, q1, q2, q3, q4, q5, q6, q7, q8, q9, q10⟩ := wr_cells _ _ _ _ _ _ _ _ _ _ _ _ _ bR_W8
      have g0 := wr_frozen bR_W8 0
      have g1 := wr_frozen bR_W8 1
      have g2 := wr_frozen bR_W8 2
      have g3 := wr_frozen bR_W8 3
      have g4 := wr_frozen bR_W8 4
      have g5 := wr_frozen bR_W8 5
      have g6 := wr_frozen bR_W8 6
      have g7 := wr_frozen bR_W8 7
      have g8 := wr_frozen bR_W8 8
      have g9 := wr_frozen bR_W8 9
      have g10 := wr_frozen bR_W8 10
      clear bR_W8 bH_W8 bO_W8 bF_W8 bT L_W8 x0 x1 x2 x3 x4 x5 x6 x7 x8 HNO
      go_wp2
      refine bodyPost_ret (results_wr rfl _ _ w.heap.size _ (0, 0) rfl (full_setCells HR8.out [.int .u8 0, .int .i64 0, .int .u8 0, .int .i64 0, .int .u8 0, .int .u8 0, .int .i64 0, .int .i64 0, .int .i64 0, .int .i64 0, .slice none 0 0] rfl) rfl) rfl ?_
      exact etNo HX.out (below_setCells w.heap.size (Nat.le_refl _) [.int .u8 0, .int .i64 0, .int .u8 0, .int .i64 0, .int .u8 0, .int .u8 0, .int .i64 0, .int .i64 0, .int .i64 0, .int .i64 0, .slice none 0 0] 0 w _ HL8.out)
    · have HX := Lib.hid (HNO.out (.inr (.inr rfl)))
      obtain ⟨q0, q1, q2, q3, q4, q5, q6, q7, q8, q9, q10⟩ := wr_cells _ _ _ _ _ _ _ _ _ _ _ _ _ bR_W8
      have g0 := wr_frozen bR_W8 0
      have g1 := wr_frozen bR_W8 1
      have g2 := wr_frozen bR_W8 2
      have g3 := wr_frozen bR_W8 3
      have g4 := wr_frozen bR_W8 4
      have g5 := wr_frozen bR_W8 5
      have g6 := wr_frozen bR_W8 6
      have g7 := wr_frozen bR_W8 7
      have g8 := wr_frozen bR_W8 8
      have g9 := wr_frozen bR_W8 9
      have g10 := wr_frozen bR_W8 10
      clear bR_W8 bH_W8 bO_W8 bF_W8 bT L_W8 x0 x1 x2 x3 x4 x5 x6 x7 x8 HNO
      go_wp2
      refine bodyPost_ret (results_wr rfl _ _ w.heap.size _ (0, 0) rfl (full_setCells HR8.out [.int .u8 0, .int .i64 0, .int .u8 0, .int .i64 0, .int .u8 0, .int .u8 0, .int .i64 0, .int .i64 0, .int .i64 0, .int .i64 0, .slice none 0 0] rfl) rfl) rfl ?_
      exact etNo HX.out (below_setCells w.heap.size (Nat.le_refl _) [.int .u8 0, .int .i64 0, .int .u8 0, .int .i64 0, .int .u8 0, .int .u8 0, .int .i64 0, .int .i64 0, .int .i64 0, .int .i64 0, .slice none 0 0] 0 w _ HL8.out)
    · have hy0 : oy = 0 := by simpa using t1
      have HFV := Lib.hid (show otV ob = (f0, f1, f2, f3, f4, f5) by
        have h := HF.out.2.1
        unfold otF at h
        rwa [if_pos (by rw [HF.out.1]; exact hy0)] at h)
      have hin : In 255 ob := by rw [← HQ.out.2.2.2.1]; exact in_drop (in_take HI.out (hlOf bs)) 20
      have HON := Lib.hid (show ONums f0 f1 f2 f3 f4 f5 from by
        have h := otV_nums' hin (by rw [HF.out.1]; exact hy0)
        rwa [HFV.out] at h)
      clear hin
      obtain ⟨q0, q1, q2, q3, q4, q5⟩ := o_cells _ _ _ _ _ _ bO_W8
      obtain ⟨r0, r1⟩ := nod_cells _ _ bF_W8
      obtain ⟨s0, s1'⟩ := nod_cells _ _ bT
      clear HR8 HL8
      go_upto_region 10 with (fail)
      have bV := heap_alloc_new W8 (.cells #[.int .u8 d0, .int .i64 d1, .int .u8 d2, .int .i64 d3, .int .u8 f0, .int .u8 f1, .int .i64 f2, .int .i64 f3, .int .i64 f4, .int .i64 f5, .slice pa tn pc] 29)
      have L_W10 := L_W8.alloc L_W8.size (.cells #[.int .u8 d0, .int .i64 d1, .int .u8 d2, .int .i64 d3, .int .u8 f0, .int .u8 f1, .int .i64 f2, .int .i64 f3, .int .i64 f4, .int .i64 f5, .slice pa tn pc] 29)
      have bR_W10 := blk_al bR_W8 (.cells #[.int .u8 d0, .int .i64 d1, .int .u8 d2, .int .i64 d3, .int .u8 f0, .int .u8 f1, .int .i64 f2, .int .i64 f3, .int .i64 f4, .int .i64 f5, .slice pa tn pc] 29)
      clear bR_W8
      have bH_W10 := blk_al bH_W8 (.cells #[.int .u8 d0, .int .i64 d1, .int .u8 d2, .int .i64 d3, .int .u8 f0, .int .u8 f1, .int .i64 f2, .int .i64 f3, .int .i64 f4, .int .i64 f5, .slice pa tn pc] 29)
      clear bH_W8
      have bO_W10 := blk_al bO_W8 (.cells #[.int .u8 d0, .int .i64 d1, .int .u8 d2, .int .i64 d3, .int .u8 f0, .int .u8 f1, .int .i64 f2, .int .i64 f3, .int .i64 f4, .int .i64 f5, .slice pa tn pc] 29)
      clear bO_W8
      have bF_W10 := blk_al bF_W8 (.cells #[.int .u8 d0, .int .i64 d1, .int .u8 d2, .int .i64 d3, .int .u8 f0, .int .u8 f1, .int .i64 f2, .int .i64 f3, .int .i64 f4, .int .i64 f5, .slice pa tn pc] 29)
      clear bF_W8
      have bT_W10 := blk_al bT (.cells #[.int .u8 d0, .int .i64 d1, .int .u8 d2, .int .i64 d3, .int .u8 f0, .int .u8 f1, .int .i64 f2, .int .i64 f3, .int .i64 f4, .int .i64 f5, .slice pa tn pc] 29)
      clear bT
      have RT_W10 := Lib.hid (RT_W8.out.allocS (.cells #[.int .u8 d0, .int .i64 d1, .int .u8 d2, .int .i64 d3, .int .u8 f0, .int .u8 f1, .int .i64 f2, .int .i64 f3, .int .i64 f4, .int .i64 f5, .slice pa tn pc] 29))
      have HW_W10 := Lib.hid (HW_W8.out.alloc (.cells #[.int .u8 d0, .int .i64 d1, .int .u8 d2, .int .i64 d3, .int .u8 f0, .int .u8 f1, .int .i64 f2, .int .i64 f3, .int .i64 f4, .int .i64 f5, .slice pa tn pc] 29))
      clear L_W8 RT_W8 HW_W8
      generalize W8.alloc (.cells #[.int .u8 d0, .int .i64 d1, .int .u8 d2, .int .i64 d3, .int .u8 f0, .int .u8 f1, .int .i64 f2, .int .i64 f3, .int .i64 f4, .int .i64 f5, .slice pa tn pc] 29) = W10 at *
      generalize W8.heap.size = aV at *
      clear q0 q1 q2 q3 q4 q5 r0 r1 s0 s1' x0 x1 x2 x3 x4 x5 x6 x7 x8
      obtain ⟨v0, v1, v2, v3, v4, v5, v6, v7, v8, v9, v10⟩ := wr_cells _ _ _ _ _ _ _ _ _ _ _ _ _ bV
      go_wp2_with (fail)
      refine (r7Put_any d0 d1 d2 d3 f0 f1 f2 f3 f4 f5 pa tn pc tb HON.out (by omega) W10 RT_W10.out HQ.out.2.2.2.2.1 hpn).mono ?_
      rintro e w11 ⟨A11, n11, c11, rfl, hz11, R11, _, _, _, m11⟩
      have L_w11 := L_W10.trans (m11.mono L_W10.size)
      have bR_w11 := (m11.block _ (Array.getElem?_eq_some_iff.1 bR_W10).1).trans bR_W10
      clear bR_W10
      have bH_w11 := (m11.block _ (Array.getElem?_eq_some_iff.1 bH_W10).1).trans bH_W10
      clear bH_W10
      have bO_w11 := (m11.block _ (Array.getElem?_eq_some_iff.1 bO_W10).1).trans bO_W10
      clear bO_W10
      have bF_w11 := (m11.block _ (Array.getElem?_eq_some_iff.1 bF_W10).1).trans bF_W10
      clear bF_W10
      have bT_w11 := (m11.block _ (Array.getElem?_eq_some_iff.1 bT_W10).1).trans bT_W10
      clear bT_W10
      have bV_w11 := (m11.block _ (Array.getElem?_eq_some_iff.1 bV).1).trans bV
      clear bV
      have RT_w11 := Lib.hid ((RT_W10.out.below m11).more m11.size)
      have HW_w11 := Lib.hid (own_below HW_W10.out m11)
      clear L_W10 m11 RT_W10 HW_W10
      clear v0 v1 v2 v3 v4 v5 v6 v7 v8 v9 v10
      obtain ⟨zz, hzz⟩ : ∃ z, enZ d0 d1 d2 d3 f0 f1 f2 f3 f4 f5 tb = z := ⟨_, rfl⟩
      rw [hzz] at hz11 R11
      have HE := Lib.hid (str_eq (row_in R11) HI.out)
      have s1 := R11.str n11 c11 hz11
      have s2 := (RS.out w11 L_w11).str len cap HL.out
      have HZ := Lib.hid (show etOk bs = eqB zz bs by
        rw [HKD.out, HQ.out.2.2.2.1, HQ.out.1, HQ.out.2.1, HF.out.1, HF.out.2.2.2.2.1, HF.out.2.2.2.2.2, decide_eq_true hy0]
        unfold etZ
        rw [HQ.out.2.2.2.1, HQ.out.1, HQ.out.2.1, HQ.out.2.2.1, HF.out.2.2.1, HF.out.2.2.2.1, HFV.out, hzz]
        rfl)
      obtain ⟨X, hX⟩ : ∃ X, strOfNums zz = X := ⟨_, rfl⟩
      obtain ⟨Y, hY⟩ : ∃ Y, strOfNums bs = Y := ⟨_, rfl⟩
      rw [hX, hY] at HE
      rw [hX] at s1
      rw [hY] at s2
      clear hzz hz11 R11 hX hY hy0 t1 hpl hpn hps
      obtain ⟨q0, q1, q2, q3, q4, q5, q6, q7, q8, q9, q10⟩ := wr_cells _ _ _ _ _ _ _ _ _ _ _ _ _ bR_w11
      obtain ⟨v0, v1, v2, v3, v4, v5, v6, v7, v8, v9, v10⟩ := wr_cells _ _ _ _ _ _ _ _ _ _ _ _ _ bV_w11
      have g0 := wr_frozen bR_w11 0
      have g1 := wr_frozen bR_w11 1
      have g2 := wr_frozen bR_w11 2
      have g3 := wr_frozen bR_w11 3
      have g4 := wr_frozen bR_w11 4
      have g5 := wr_frozen bR_w11 5
      have g6 := wr_frozen bR_w11 6
      have g7 := wr_frozen bR_w11 7
      have g8 := wr_frozen bR_w11 8
      have g9 := wr_frozen bR_w11 9
      have g10 := wr_frozen bR_w11 10
      have HR11 := Lib.hid bR_w11
      have HL11 := Lib.hid L_w11
      clear bR_w11 bH_w11 bO_w11 bF_w11 bT_w11 bV_w11 L_w11
      cases hb : eqB zz bs
      · have HB := Lib.hid hb
        have e1 : (X.toList == Y.toList) = false := by rw [HE.out]; exact hb
        have e2 : (X.toList != Y.toList) = true := by rw [bne, e1]; rfl
        clear hb
        go_wp2
        refine bodyPost_ret (results_wr rfl _ _ w.heap.size _ (0, 0) rfl (full_setCells HR11.out [.int .u8 0, .int .i64 0, .int .u8 0, .int .i64 0, .int .u8 0, .int .u8 0, .int .i64 0, .int .i64 0, .int .i64 0, .int .i64 0, .slice none 0 0] rfl) rfl) rfl ?_
        exact etNo (by rw [HZ.out]; exact HB.out) (below_setCells w.heap.size (Nat.le_refl _) [.int .u8 0, .int .i64 0, .int .u8 0, .int .i64 0, .int .u8 0, .int .u8 0, .int .i64 0, .int .i64 0, .int .i64 0, .int .i64 0, .slice none 0 0] 0 w _ HL11.out)
      · have HB := Lib.hid hb
        have e1 : (X.toList == Y.toList) = true := by rw [HE.out]; exact hb
        have e2 : (X.toList != Y.toList) = false := by rw [bne, e1]; rfl
        clear hb
        go_wp2
        refine bodyPost_ret (results_wr rfl _ _ w.heap.size _ (0, 0) rfl (full_setCells HR11.out [.int .u8 d0, .int .i64 d1, .int .u8 d2, .int .i64 d3, .int .u8 f0, .int .u8 f1, .int .i64 f2, .int .i64 f3, .int .i64 f4, .int .i64 f5, .slice pa tn pc] rfl) rfl) rfl ?_
        have hok : etOk bs = true := by rw [HZ.out]; exact HB.out
        unfold EnTakeRet
        rw [HQ.out.1, HQ.out.2.1, HQ.out.2.2.1, HQ.out.2.2.2.1, HF.out.2.2.1, HF.out.2.2.2.1, HFV.out, HQ.out.2.2.2.2.1]
        exact .inr ⟨hok, pa, pc, rfl, own_apartN (by decide) [.int .u8 d0, .int .i64 d1, .int .u8 d2, .int .i64 d3, .int .u8 f0, .int .u8 f1, .int .i64 f2, .int .i64 f3, .int .i64 f4, .int .i64 f5, .slice pa tn pc] 0 _ _ HW_w11.out HR11.out, below_setCells w.heap.size (Nat.le_refl _) [.int .u8 d0, .int .i64 d1, .int .u8 d2, .int .i64 d3, .int .u8 f0, .int .u8 f1, .int .i64 f2, .int .i64 f3, .int .i64 f4, .int .i64 f5, .slice pa tn pc] 0 w _ HL11.out⟩
end Go.Proofs.YthenbpnlmpeafaaDoor
