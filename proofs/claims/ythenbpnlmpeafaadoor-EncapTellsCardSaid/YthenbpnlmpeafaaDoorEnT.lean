/- Package encap: Take. -/
import Derived.Test.YthenbpnlmpeafaaDoorEnQ
import Derived.Test.YthenbpnlmpeafaaDoorEnU
namespace Go.Proofs.YthenbpnlmpeafaaDoor
open Go.RowKit Go.Shelf
open SumM

theorem heap_scs_ne (b k : Nat) (h : k ≠ b) : ∀ (vs : List Value) (o : Nat) (w : World), (w.setCells b o vs).heap[k]? = w.heap[k]?
  | [], _, _ => rfl
  | v :: r, o, w => (heap_scs_ne b k h r (o + 1) _).trans (Below.heap_setCell w ⟨b, o, none⟩ v k h)
theorem otF_nums {bs : List Int} (hin : In 255 bs) : ONums (otF bs).1 (otF bs).2.1 (otF bs).2.2.1 (otF bs).2.2.2.1 (otF bs).2.2.2.2.1 (otF bs).2.2.2.2.2 := by
  unfold otF
  split
  · rename_i h
    exact otV_nums' hin h
  · exact ⟨by decide, by decide, by decide, by decide, by decide, by decide⟩

set_option maxRecDepth 100000 in
set_option maxHeartbeats 16000000 in
theorem eTake_any (a : Option Addr) (len cap : Nat) (bs : List Int) (hlen : bs.length = len) (hlc : len ≤ cap) (hc : cap ≤ 9223372036854775807) (hln : len ≤ 1000000) (w : World) (hg : 0 < w.heap.size) (hW : Wid w) (hR : Row .u8 w.heap.size w a bs) :
    Calls Tryd.prog 15 #[.slice a len cap] w (EnTakeRet bs w) := by
  have HI := Lib.hid (row_in hR)
  have bR := blk_al (heap_alloc_new w (.cells #[.int .u8 0, .int .i64 0, .int .u8 0, .int .i64 0, .int .u8 0, .int .u8 0, .int .i64 0, .int .i64 0, .int .i64 0, .int .i64 0, .slice none 0 0] 29)) (.cells #[.int .u8 0, .int .u16 0, .int .u16 0, .int .u8 0, .int .u8 0, .int .u32 0, .int .u32 0, .slice none 0 0, .slice none 0 0] 51)
  have bA := heap_alloc_new_at (w := w.alloc (.cells #[.int .u8 0, .int .i64 0, .int .u8 0, .int .i64 0, .int .u8 0, .int .u8 0, .int .i64 0, .int .i64 0, .int .i64 0, .int .i64 0, .slice none 0 0] 29)) (m := w.heap.size + 1) (by simp) (.cells #[.int .u8 0, .int .u16 0, .int .u16 0, .int .u8 0, .int .u8 0, .int .u32 0, .int .u32 0, .slice none 0 0, .slice none 0 0] 51)
  have L0 := ((Below.refl w.heap.size w).alloc (Nat.le_refl _) (.cells #[.int .u8 0, .int .i64 0, .int .u8 0, .int .i64 0, .int .u8 0, .int .u8 0, .int .i64 0, .int .i64 0, .int .i64 0, .int .i64 0, .slice none 0 0] 29)).alloc (by simp) (.cells #[.int .u8 0, .int .u16 0, .int .u16 0, .int .u8 0, .int .u8 0, .int .u32 0, .int .u32 0, .slice none 0 0, .slice none 0 0] 51)
  have RS := Lib.hid (fun W (m : Below w.heap.size w W) => (hR.below m).more m.size)
  have HG := Lib.hid (fun W (m : Below w.heap.size w W) => And.intro (Nat.lt_of_lt_of_le hg m.size) (hW.below hg m))
  have HL := Lib.hid hlen
  have HLN := Lib.hid (And.intro hln (And.intro hlc hc))
  clear hR hlen hg hW
  go_enter Tryd.func15, Tryd.ntmps15
  go_wp2_with (fail)
  refine wp_scope_jumps 0 (fun a' w' => Below w.heap.size w w' ∧ etOk bs = false ∧ (∃ (z0 z1 z2 z3 z4 z5 z6 z7 z8 z9 : Int) (za : Option Addr) (zn zc : Nat), w'.heap[w.heap.size]? = some (.cells #[.int .u8 z0, .int .i64 z1, .int .u8 z2, .int .i64 z3, .int .u8 z4, .int .u8 z5, .int .i64 z6, .int .i64 z7, .int .i64 z8, .int .i64 z9, .slice za zn zc] 29 (0, 0))) ∧ ∃ (u0 u1 u3 u4 u5 u6 u7 u8 u9 u10 u11 u12 u13 u14 u15 u16 u17 u18 u19 u20 u21 u22 u23 u24 u25 u26 u27 u28 u29 u30 : Value), a' = { tmps := #[u0, u1, .pointer (some ⟨w.heap.size, 0, none⟩), u3, u4, u5, u6, u7, u8, u9, u10, u11, u12, u13, u14, u15, u16, u17, u18, u19, u20, u21, u22, u23, u24, u25, u26, u27, u28, u29, u30], defers := [] }) (fun _ _ => 0) rfl ?first ?pass
  case pass =>
    rintro a' w' ⟨LL, hno, ⟨z0, z1, z2, z3, z4, z5, z6, z7, z8, z9, za, zn, zc, hd⟩, u0, u1, u3, u4, u5, u6, u7, u8, u9, u10, u11, u12, u13, u14, u15, u16, u17, u18, u19, u20, u21, u22, u23, u24, u25, u26, u27, u28, u29, u30, rfl⟩
    obtain ⟨q0, q1, q2, q3, q4, q5, q6, q7, q8, q9, q10⟩ := wr_cells _ _ _ _ _ _ _ _ _ _ _ _ _ hd
    have f0 := wr_frozen hd 0
    have f1 := wr_frozen hd 1
    have f2 := wr_frozen hd 2
    have f3 := wr_frozen hd 3
    have f4 := wr_frozen hd 4
    have f5 := wr_frozen hd 5
    have f6 := wr_frozen hd 6
    have f7 := wr_frozen hd 7
    have f8 := wr_frozen hd 8
    have f9 := wr_frozen hd 9
    have f10 := wr_frozen hd 10
    have HN := Lib.hid (And.intro hno (And.intro LL hd))
    clear LL hno hd bR bA L0
    go_wp2
    simp only [Exit.jump]
    refine bodyPost_ret (results_wr rfl _ _ w.heap.size _ (0, 0) rfl (full_setCells HN.out.2.2 [.int .u8 0, .int .i64 0, .int .u8 0, .int .i64 0, .int .u8 0, .int .u8 0, .int .i64 0, .int .i64 0, .int .i64 0, .int .i64 0, .slice none 0 0] rfl) rfl) rfl ?_
    exact etNo HN.out.1 (below_setCells w.heap.size (Nat.le_refl _) [.int .u8 0, .int .i64 0, .int .u8 0, .int .i64 0, .int .u8 0, .int .u8 0, .int .i64 0, .int .i64 0, .int .i64 0, .int .i64 0, .slice none 0 0] 0 w _ HN.out.2.1)
  case first =>
    go_upto_region 3 with (fail)
    generalize (w.alloc (.cells #[.int .u8 0, .int .i64 0, .int .u8 0, .int .i64 0, .int .u8 0, .int .u8 0, .int .i64 0, .int .i64 0, .int .i64 0, .int .i64 0, .slice none 0 0] 29)).alloc (.cells #[.int .u8 0, .int .u16 0, .int .u16 0, .int .u8 0, .int .u8 0, .int .u32 0, .int .u32 0, .slice none 0 0, .slice none 0 0] 51) = W0 at *
    have L0s := L0.size
    have K := Lib.hid (ipParse_any a len cap bs HL.out hlc hc hln W0 (HG.out _ L0).1 (HG.out _ L0).2 (RS.out W0 L0))
    go_wp2_with (fail)
    refine K.out.mono ?_
    rintro e w1 (⟨hy, rfl, m1⟩ | ⟨hy, v, rfl, oa, oc, pa, pc, rfl, ho, hp, m1⟩)
    · have L1 := L0.trans (m1.mono L0.size)
      have bR1 := (m1.block _ (Array.getElem?_eq_some_iff.1 bR).1).trans bR
      have p1 : (whyOf bs != 0) = true := by simpa using hy
      have HNO := Lib.hid (show etOk bs = false by unfold etOk; rw [decide_eq_false hy]; rfl)
      generalize whyOf bs = y at *
      have HX := Lib.hid (And.intro (L1.alloc L1.size (.cells #[.int .u8 0, .int .u16 0, .int .u16 0, .int .u8 0, .int .u8 0, .int .u32 0, .int .u32 0, .slice none 0 0, .slice none 0 0] 51)) (blk_al bR1 (.cells #[.int .u8 0, .int .u16 0, .int .u16 0, .int .u8 0, .int .u8 0, .int .u32 0, .int .u32 0, .slice none 0 0, .slice none 0 0] 51)))
      clear bR bA L0 m1 hy K L1 bR1
      go_wp2
      go_step3
      exact ⟨rfl, HX.out.1, HNO.out, ⟨_, _, _, _, _, _, _, _, _, _, _, _, _, HX.out.2⟩, _, _, _, _, _, _, _, _, _, _, _, _, _, _, _, _, _, _, _, _, _, _, _, _, _, _, _, _, _, _, rfl⟩
    · have L1 := L0.trans (m1.mono L0.size)
      have bR1 := (m1.block _ (Array.getElem?_eq_some_iff.1 bR).1).trans bR
      have bA1 := (m1.block _ (Array.getElem?_eq_some_iff.1 bA).1).trans bA
      have HE := Lib.hid (et_head HI.out hy)
      have HON := Lib.hid (otF_nums (in_drop (in_take HI.out (hlOf bs)) 20))
      have hos := own_cap ho
      clear bR bA L0 m1 hy K
      unfold ehOk ehSame at HE
      generalize segAt bs 1 % 256 = s1 at *
      generalize segAt bs 3 % 65536 = s3 at *
      generalize segAt bs 4 % 65536 = s4 at *
      generalize segAt bs 5 % 256 = s5 at *
      generalize segAt bs 6 % 256 = s6 at *
      obtain ⟨s8, hS8⟩ : ∃ x, segAt bs 8 = x := ⟨_, rfl⟩
      obtain ⟨s9, hS9⟩ : ∃ x, segAt bs 9 = x := ⟨_, rfl⟩
      have TBE : bs.drop (hlOf bs) = etIn bs := rfl
      have TOE : (bs.take (hlOf bs)).drop 20 = etOpt bs := rfl
      rw [TBE] at hp
      rw [TOE] at ho hos HON
      rw [TBE, TOE]
      obtain ⟨tb, hTB⟩ : ∃ x, etIn bs = x := ⟨_, rfl⟩
      obtain ⟨ob, hOB⟩ : ∃ x, etOpt bs = x := ⟨_, rfl⟩
      have HQ := Lib.hid (show segAt bs 8 = s8 ∧ segAt bs 9 = s9 ∧ etIn bs = tb ∧ etOpt bs = ob from ⟨hS8, hS9, hTB, hOB⟩)
      rw [hS8, hS9, hTB, hOB] at HE
      rw [hS8, hS9, hTB, hOB]
      rw [hTB] at hp
      rw [hOB] at ho hos HON
      obtain ⟨tn, hTN⟩ : ∃ n, tb.length = n := ⟨_, rfl⟩
      obtain ⟨on, hON⟩ : ∃ n, ob.length = n := ⟨_, rfl⟩
      rw [hTN] at hp
      rw [hON] at ho hos
      rw [hTN, hON]
      have HIT := Lib.hid (show In 255 tb ∧ In 255 ob ∧ tb.length = tn ∧ ob.length = on from ⟨hTB ▸ in_drop HI.out (hlOf bs), hOB ▸ in_drop (in_take HI.out (hlOf bs)) 20, hTN, hON⟩)
      obtain ⟨⟨d0, d1⟩, hd8⟩ : ∃ v, nodV s8 = v := ⟨_, rfl⟩
      obtain ⟨⟨d2, d3⟩, hd9⟩ : ∃ v, nodV s9 = v := ⟨_, rfl⟩
      obtain ⟨⟨f0, f1, f2, f3, f4, f5⟩, hof⟩ : ∃ f, otF ob = f := ⟨_, rfl⟩
      have HF := Lib.hid (show nodV s8 = (d0, d1) ∧ nodV s9 = (d2, d3) ∧ otF ob = (f0, f1, f2, f3, f4, f5) from ⟨hd8, hd9, hof⟩)
      rw [hd8, hd9, hof] at HE
      rw [hof] at HON
      clear hS8 hS9 hTB hOB hTN hON TBE TOE hd8 hd9 hof
      go_upto_region 4 with (fail)
      have bH := heap_alloc_new w1 (.cells #[.int .u8 s1, .int .u16 s3, .int .u16 s4, .int .u8 s5, .int .u8 s6, .int .u32 s8, .int .u32 s9, .slice oa on oc, .slice pa tn pc] 51)
      have bR2 := blk_al bR1 (.cells #[.int .u8 s1, .int .u16 s3, .int .u16 s4, .int .u8 s5, .int .u8 s6, .int .u32 s8, .int .u32 s9, .slice oa on oc, .slice pa tn pc] 51)
      have bA2 := blk_al bA1 (.cells #[.int .u8 s1, .int .u16 s3, .int .u16 s4, .int .u8 s5, .int .u8 s6, .int .u32 s8, .int .u32 s9, .slice oa on oc, .slice pa tn pc] 51)
      have L2 := L1.alloc L1.size (.cells #[.int .u8 s1, .int .u16 s3, .int .u16 s4, .int .u8 s5, .int .u8 s6, .int .u32 s8, .int .u32 s9, .slice oa on oc, .slice pa tn pc] 51)
      have OT2 := Lib.hid ((own_base hp L0s).alloc (.cells #[.int .u8 s1, .int .u16 s3, .int .u16 s4, .int .u8 s5, .int .u8 s6, .int .u32 s8, .int .u32 s9, .slice oa on oc, .slice pa tn pc] 51))
      have OU2 := Lib.hid ((own_base ho L0s).alloc (.cells #[.int .u8 s1, .int .u16 s3, .int .u16 s4, .int .u8 s5, .int .u8 s6, .int .u32 s8, .int .u32 s9, .slice oa on oc, .slice pa tn pc] 51))
      have hne : w.heap.size ≠ w1.heap.size ∧ w.heap.size + 1 ≠ w1.heap.size := by
        have h1 := (Array.getElem?_eq_some_iff.1 bR1).1
        have h2 := (Array.getElem?_eq_some_iff.1 bA1).1
        exact ⟨by omega, by omega⟩
      generalize w1.alloc (.cells #[.int .u8 s1, .int .u16 s3, .int .u16 s4, .int .u8 s5, .int .u8 s6, .int .u32 s8, .int .u32 s9, .slice oa on oc, .slice pa tn pc] 51) = W2 at *
      generalize w1.heap.size = ah at *
      obtain ⟨x0, x1, x2, x3, x4, x5, x6, x7, x8⟩ := head_cells _ _ _ _ _ _ _ _ _ _ _ _ _ bH
      have HNE := Lib.hid hne
      have RU2 := Row.of_own OU2.out (in_wf8 HIT.out.2.1)
      have KW := Lib.hid (show Calls Tryd.prog 35 #[.agg #[.int .u8 s1, .int .u16 s3, .int .u16 s4, .int .u8 s5, .int .u8 s6, .int .u32 s8, .int .u32 s9, .slice oa on oc, .slice pa tn pc]] W2 fun e w' => e = .returned (.agg #[.int .u8 d0, .int .i64 d1, .int .u8 d2, .int .i64 d3, .int .u8 f0, .int .u8 f1, .int .i64 f2, .int .i64 f3, .int .i64 f4, .int .i64 f5, .slice pa tn pc]) ∧ Below W2.heap.size W2 w' from by
        have h := eWrapOf_any s1 s3 s4 s5 s6 s8 s9 oa on oc pa tn pc ob HIT.out.2.2.2 hos.1 hos.2 W2 RU2
        rwa [HF.out.1, HF.out.2.1, HF.out.2.2] at h)
      clear bR1 bA1 L1 ho hp hos hne RU2
      go_wp2_with (fail)
      refine KW.out.mono ?_
      rintro e w3 ⟨rfl, m3⟩
      have bR3 := (m3.block _ (Array.getElem?_eq_some_iff.1 bR2).1).trans bR2
      have bA3 := (m3.block _ (Array.getElem?_eq_some_iff.1 bA2).1).trans bA2
      have bH3 := (m3.block _ (Array.getElem?_eq_some_iff.1 bH).1).trans bH
      have L3 := L2.trans (m3.mono L2.size)
      have OT3 := Lib.hid (own_below OT2.out m3)
      have OU3 := Lib.hid (own_below OU2.out m3)
      clear bR2 bA2 bH L2 OT2 OU2 m3 KW x0 x1 x2 x3 x4 x5 x6 x7 x8
      obtain ⟨q0, q1, q2, q3, q4, q5, q6, q7, q8, q9, q10⟩ := wr_cells _ _ _ _ _ _ _ _ _ _ _ _ _ bR3
      have g0 := wr_frozen bR3 0
      have g1 := wr_frozen bR3 1
      have g2 := wr_frozen bR3 2
      have g3 := wr_frozen bR3 3
      have g4 := wr_frozen bR3 4
      have g5 := wr_frozen bR3 5
      have g6 := wr_frozen bR3 6
      have g7 := wr_frozen bR3 7
      have g8 := wr_frozen bR3 8
      have g9 := wr_frozen bR3 9
      have g10 := wr_frozen bR3 10
      have HR3 := Lib.hid bR3
      have HA3 := Lib.hid bA3
      have HH3 := Lib.hid bH3
      have HL3 := Lib.hid L3
      clear bR3 bA3 bH3 L3
      go_upto_region 6 with (fail)
      have bR4 : (((((((((((w3.setCell ⟨w.heap.size, 0, none⟩ (.int .u8 d0)).setCell ⟨w.heap.size, 1, none⟩ (.int .i64 d1)).setCell ⟨w.heap.size, 2, none⟩ (.int .u8 d2)).setCell ⟨w.heap.size, 3, none⟩ (.int .i64 d3)).setCell ⟨w.heap.size, 4, none⟩ (.int .u8 f0)).setCell ⟨w.heap.size, 5, none⟩ (.int .u8 f1)).setCell ⟨w.heap.size, 6, none⟩ (.int .i64 f2)).setCell ⟨w.heap.size, 7, none⟩ (.int .i64 f3)).setCell ⟨w.heap.size, 8, none⟩ (.int .i64 f4)).setCell ⟨w.heap.size, 9, none⟩ (.int .i64 f5)).setCell ⟨w.heap.size, 10, none⟩ (.slice pa tn pc)).heap[w.heap.size]? = some (.cells #[.int .u8 d0, .int .i64 d1, .int .u8 d2, .int .i64 d3, .int .u8 f0, .int .u8 f1, .int .i64 f2, .int .i64 f3, .int .i64 f4, .int .i64 f5, .slice pa tn pc] 29 (0, 0)) := full_setCells HR3.out [.int .u8 d0, .int .i64 d1, .int .u8 d2, .int .i64 d3, .int .u8 f0, .int .u8 f1, .int .i64 f2, .int .i64 f3, .int .i64 f4, .int .i64 f5, .slice pa tn pc] rfl
      have bA4 : (((((((((((w3.setCell ⟨w.heap.size, 0, none⟩ (.int .u8 d0)).setCell ⟨w.heap.size, 1, none⟩ (.int .i64 d1)).setCell ⟨w.heap.size, 2, none⟩ (.int .u8 d2)).setCell ⟨w.heap.size, 3, none⟩ (.int .i64 d3)).setCell ⟨w.heap.size, 4, none⟩ (.int .u8 f0)).setCell ⟨w.heap.size, 5, none⟩ (.int .u8 f1)).setCell ⟨w.heap.size, 6, none⟩ (.int .i64 f2)).setCell ⟨w.heap.size, 7, none⟩ (.int .i64 f3)).setCell ⟨w.heap.size, 8, none⟩ (.int .i64 f4)).setCell ⟨w.heap.size, 9, none⟩ (.int .i64 f5)).setCell ⟨w.heap.size, 10, none⟩ (.slice pa tn pc)).heap[w.heap.size + 1]? = some (.cells #[.int .u8 0, .int .u16 0, .int .u16 0, .int .u8 0, .int .u8 0, .int .u32 0, .int .u32 0, .slice none 0 0, .slice none 0 0] 51 (0, 0)) := (heap_scs_ne w.heap.size (w.heap.size + 1) (by omega) [.int .u8 d0, .int .i64 d1, .int .u8 d2, .int .i64 d3, .int .u8 f0, .int .u8 f1, .int .i64 f2, .int .i64 f3, .int .i64 f4, .int .i64 f5, .slice pa tn pc] 0 w3).trans HA3.out
      have bH4 : (((((((((((w3.setCell ⟨w.heap.size, 0, none⟩ (.int .u8 d0)).setCell ⟨w.heap.size, 1, none⟩ (.int .i64 d1)).setCell ⟨w.heap.size, 2, none⟩ (.int .u8 d2)).setCell ⟨w.heap.size, 3, none⟩ (.int .i64 d3)).setCell ⟨w.heap.size, 4, none⟩ (.int .u8 f0)).setCell ⟨w.heap.size, 5, none⟩ (.int .u8 f1)).setCell ⟨w.heap.size, 6, none⟩ (.int .i64 f2)).setCell ⟨w.heap.size, 7, none⟩ (.int .i64 f3)).setCell ⟨w.heap.size, 8, none⟩ (.int .i64 f4)).setCell ⟨w.heap.size, 9, none⟩ (.int .i64 f5)).setCell ⟨w.heap.size, 10, none⟩ (.slice pa tn pc)).heap[ah]? = some (.cells #[.int .u8 s1, .int .u16 s3, .int .u16 s4, .int .u8 s5, .int .u8 s6, .int .u32 s8, .int .u32 s9, .slice oa on oc, .slice pa tn pc] 51 (0, 0)) := (heap_scs_ne w.heap.size ah (Ne.symm HNE.out.1) [.int .u8 d0, .int .i64 d1, .int .u8 d2, .int .i64 d3, .int .u8 f0, .int .u8 f1, .int .i64 f2, .int .i64 f3, .int .i64 f4, .int .i64 f5, .slice pa tn pc] 0 w3).trans HH3.out
      have L4 : Below w.heap.size w (((((((((((w3.setCell ⟨w.heap.size, 0, none⟩ (.int .u8 d0)).setCell ⟨w.heap.size, 1, none⟩ (.int .i64 d1)).setCell ⟨w.heap.size, 2, none⟩ (.int .u8 d2)).setCell ⟨w.heap.size, 3, none⟩ (.int .i64 d3)).setCell ⟨w.heap.size, 4, none⟩ (.int .u8 f0)).setCell ⟨w.heap.size, 5, none⟩ (.int .u8 f1)).setCell ⟨w.heap.size, 6, none⟩ (.int .i64 f2)).setCell ⟨w.heap.size, 7, none⟩ (.int .i64 f3)).setCell ⟨w.heap.size, 8, none⟩ (.int .i64 f4)).setCell ⟨w.heap.size, 9, none⟩ (.int .i64 f5)).setCell ⟨w.heap.size, 10, none⟩ (.slice pa tn pc)) := below_setCells w.heap.size (Nat.le_refl _) [.int .u8 d0, .int .i64 d1, .int .u8 d2, .int .i64 d3, .int .u8 f0, .int .u8 f1, .int .i64 f2, .int .i64 f3, .int .i64 f4, .int .i64 f5, .slice pa tn pc] 0 w _ HL3.out
      have OT4 : (((((((((((w3.setCell ⟨w.heap.size, 0, none⟩ (.int .u8 d0)).setCell ⟨w.heap.size, 1, none⟩ (.int .i64 d1)).setCell ⟨w.heap.size, 2, none⟩ (.int .u8 d2)).setCell ⟨w.heap.size, 3, none⟩ (.int .i64 d3)).setCell ⟨w.heap.size, 4, none⟩ (.int .u8 f0)).setCell ⟨w.heap.size, 5, none⟩ (.int .u8 f1)).setCell ⟨w.heap.size, 6, none⟩ (.int .i64 f2)).setCell ⟨w.heap.size, 7, none⟩ (.int .i64 f3)).setCell ⟨w.heap.size, 8, none⟩ (.int .i64 f4)).setCell ⟨w.heap.size, 9, none⟩ (.int .i64 f5)).setCell ⟨w.heap.size, 10, none⟩ (.slice pa tn pc)).ownsRow w.heap.size 5 1 (.slice pa tn pc) tn (tb.map (Value.int .u8)) := own_apartN (by decide) [.int .u8 d0, .int .i64 d1, .int .u8 d2, .int .i64 d3, .int .u8 f0, .int .u8 f1, .int .i64 f2, .int .i64 f3, .int .i64 f4, .int .i64 f5, .slice pa tn pc] 0 _ _ OT3.out HR3.out
      have OU4 : (((((((((((w3.setCell ⟨w.heap.size, 0, none⟩ (.int .u8 d0)).setCell ⟨w.heap.size, 1, none⟩ (.int .i64 d1)).setCell ⟨w.heap.size, 2, none⟩ (.int .u8 d2)).setCell ⟨w.heap.size, 3, none⟩ (.int .i64 d3)).setCell ⟨w.heap.size, 4, none⟩ (.int .u8 f0)).setCell ⟨w.heap.size, 5, none⟩ (.int .u8 f1)).setCell ⟨w.heap.size, 6, none⟩ (.int .i64 f2)).setCell ⟨w.heap.size, 7, none⟩ (.int .i64 f3)).setCell ⟨w.heap.size, 8, none⟩ (.int .i64 f4)).setCell ⟨w.heap.size, 9, none⟩ (.int .i64 f5)).setCell ⟨w.heap.size, 10, none⟩ (.slice pa tn pc)).ownsRow w.heap.size 5 1 (.slice oa on oc) on (ob.map (Value.int .u8)) := own_apartN (by decide) [.int .u8 d0, .int .i64 d1, .int .u8 d2, .int .i64 d3, .int .u8 f0, .int .u8 f1, .int .i64 f2, .int .i64 f3, .int .i64 f4, .int .i64 f5, .slice pa tn pc] 0 _ _ OU3.out HR3.out
      clear q0 q1 q2 q3 q4 q5 q6 q7 q8 q9 q10 g0 g1 g2 g3 g4 g5 g6 g7 g8 g9 g10 HR3 HA3 HH3 HL3 OT3 OU3
      generalize ((((((((((w3.setCell ⟨w.heap.size, 0, none⟩ (.int .u8 d0)).setCell ⟨w.heap.size, 1, none⟩ (.int .i64 d1)).setCell ⟨w.heap.size, 2, none⟩ (.int .u8 d2)).setCell ⟨w.heap.size, 3, none⟩ (.int .i64 d3)).setCell ⟨w.heap.size, 4, none⟩ (.int .u8 f0)).setCell ⟨w.heap.size, 5, none⟩ (.int .u8 f1)).setCell ⟨w.heap.size, 6, none⟩ (.int .i64 f2)).setCell ⟨w.heap.size, 7, none⟩ (.int .i64 f3)).setCell ⟨w.heap.size, 8, none⟩ (.int .i64 f4)).setCell ⟨w.heap.size, 9, none⟩ (.int .i64 f5)).setCell ⟨w.heap.size, 10, none⟩ (.slice pa tn pc) = W4 at *
      obtain ⟨v0, v1, v2, v3, v4, v5, v6, v7, v8, v9, v10⟩ := wr_cells _ _ _ _ _ _ _ _ _ _ _ _ _ bR4
      have KH := Lib.hid (eHead_any d0 d1 d2 d3 f0 f1 f2 f3 f4 f5 pa tn pc HON.out W4)
      have HX4 := Lib.hid (And.intro bR4 (And.intro bA4 (And.intro bH4 (And.intro L4 (And.intro OT4 OU4)))))
      clear bR4 bA4 bH4 L4 OT4 OU4
      go_wp2_with (fail)
      refine KH.out.mono ?_
      rintro e w5 (⟨hno, rfl, m5⟩ | ⟨hok, A, c, rfl, hc1, hc2, R5, m5⟩)
      · have HNO := Lib.hid (show etOk bs = false by rw [HE.out, hno]; rfl)
        obtain ⟨k1, k2, k3, k4, k5, k6⟩ := HX4.out
        have bR5 := (m5.block _ (Array.getElem?_eq_some_iff.1 k1).1).trans k1
        have bA5 := (m5.block _ (Array.getElem?_eq_some_iff.1 k2).1).trans k2
        have bH5 := (m5.block _ (Array.getElem?_eq_some_iff.1 k3).1).trans k3
        have L5 := k4.trans (m5.mono k4.size)
        have OT5 := own_below k5 m5
        have OU5 := own_below k6 m5
        obtain ⟨⟨p0, p1, p2, p3, p4, p5, p6, p7, p8⟩, qf⟩ := nine_cells bA5
        have f0' := qf 0
        have f1' := qf 1
        have f2' := qf 2
        have f3' := qf 3
        have f4' := qf 4
        have f5' := qf 5
        have f6' := qf 6
        have f7' := qf 7
        have f8' := qf 8
        clear k1 k2 k3 k4 k5 k6 qf m5 KH HX4 v0 v1 v2 v3 v4 v5 v6 v7 v8 v9 v10
        
        have HY := Lib.hid (And.intro (below_setCells (w.heap.size + 1) (by omega) [.int .u8 0, .int .u16 0, .int .u16 0, .int .u8 0, .int .u8 0, .int .u32 0, .int .u32 0, .slice none 0 0, .slice none 0 0] 0 w _ L5) ((heap_scs_ne (w.heap.size + 1) w.heap.size (by omega) [.int .u8 0, .int .u16 0, .int .u16 0, .int .u8 0, .int .u8 0, .int .u32 0, .int .u32 0, .slice none 0 0, .slice none 0 0] 0 w5).trans bR5))
        clear bR5 bA5 bH5 L5 OT5 OU5 hno
        go_wp2
        go_step3
        exact ⟨rfl, HY.out.1, HNO.out, ⟨_, _, _, _, _, _, _, _, _, _, _, _, _, HY.out.2⟩, _, _, _, _, _, _, _, _, _, _, _, _, _, _, _, _, _, _, _, _, _, _, _, _, _, _, _, _, _, _, rfl⟩
      · have HOK := Lib.hid hok
        obtain ⟨k1, k2, k3, k4, k5, k6⟩ := HX4.out
        have bR5 := (m5.block _ (Array.getElem?_eq_some_iff.1 k1).1).trans k1
        have bA5 := (m5.block _ (Array.getElem?_eq_some_iff.1 k2).1).trans k2
        have bH5 := (m5.block _ (Array.getElem?_eq_some_iff.1 k3).1).trans k3
        have L5 := k4.trans (m5.mono k4.size)
        have OT5 := own_below k5 m5
        have OU5 := own_below k6 m5
        obtain ⟨⟨p0, p1, p2, p3, p4, p5, p6, p7, p8⟩, qf⟩ := nine_cells bA5
        have f0' := qf 0
        have f1' := qf 1
        have f2' := qf 2
        have f3' := qf 3
        have f4' := qf 4
        have f5' := qf 5
        have f6' := qf 6
        have f7' := qf 7
        have f8' := qf 8
        clear k1 k2 k3 k4 k5 k6 qf m5 KH HX4 v0 v1 v2 v3 v4 v5 v6 v7 v8 v9 v10
        
        obtain ⟨a8, ha8⟩ : ∃ x, adr (d0, d1) = x := ⟨_, rfl⟩
        obtain ⟨a9, ha9⟩ : ∃ x, adr (d2, d3) = x := ⟨_, rfl⟩
        rw [ha8, ha9] at HE
        rw [ha8, ha9]
        have HR5 := Lib.hid (And.intro hc1 (And.intro hc2 R5))
        have HX5 := Lib.hid (And.intro bR5 (And.intro bA5 (And.intro bH5 (And.intro L5 (And.intro OT5 OU5)))))
        clear ha8 ha9 hc1 hc2 R5 hok bR5 bA5 bH5 L5 OT5 OU5
        go_upto_region 7 with (fail)
        obtain ⟨k1, k2, k3, k4, k5, k6⟩ := HX5.out
        have bR6 : (((((((((w5.setCell ⟨w.heap.size + 1, 0, none⟩ (.int .u8 0)).setCell ⟨w.heap.size + 1, 1, none⟩ (.int .u16 0)).setCell ⟨w.heap.size + 1, 2, none⟩ (.int .u16 0)).setCell ⟨w.heap.size + 1, 3, none⟩ (.int .u8 64)).setCell ⟨w.heap.size + 1, 4, none⟩ (.int .u8 4)).setCell ⟨w.heap.size + 1, 5, none⟩ (.int .u32 a8)).setCell ⟨w.heap.size + 1, 6, none⟩ (.int .u32 a9)).setCell ⟨w.heap.size + 1, 7, none⟩ (.slice A 16 c)).setCell ⟨w.heap.size + 1, 8, none⟩ (.slice pa tn pc)).heap[w.heap.size]? = some (.cells #[.int .u8 d0, .int .i64 d1, .int .u8 d2, .int .i64 d3, .int .u8 f0, .int .u8 f1, .int .i64 f2, .int .i64 f3, .int .i64 f4, .int .i64 f5, .slice pa tn pc] 29 (0, 0)) := (heap_scs_ne (w.heap.size + 1) w.heap.size (by omega) [.int .u8 0, .int .u16 0, .int .u16 0, .int .u8 64, .int .u8 4, .int .u32 a8, .int .u32 a9, .slice A 16 c, .slice pa tn pc] 0 w5).trans k1
        have bA6 : (((((((((w5.setCell ⟨w.heap.size + 1, 0, none⟩ (.int .u8 0)).setCell ⟨w.heap.size + 1, 1, none⟩ (.int .u16 0)).setCell ⟨w.heap.size + 1, 2, none⟩ (.int .u16 0)).setCell ⟨w.heap.size + 1, 3, none⟩ (.int .u8 64)).setCell ⟨w.heap.size + 1, 4, none⟩ (.int .u8 4)).setCell ⟨w.heap.size + 1, 5, none⟩ (.int .u32 a8)).setCell ⟨w.heap.size + 1, 6, none⟩ (.int .u32 a9)).setCell ⟨w.heap.size + 1, 7, none⟩ (.slice A 16 c)).setCell ⟨w.heap.size + 1, 8, none⟩ (.slice pa tn pc)).heap[w.heap.size + 1]? = some (.cells #[.int .u8 0, .int .u16 0, .int .u16 0, .int .u8 64, .int .u8 4, .int .u32 a8, .int .u32 a9, .slice A 16 c, .slice pa tn pc] 51 (0, 0)) := full_setCells k2 [.int .u8 0, .int .u16 0, .int .u16 0, .int .u8 64, .int .u8 4, .int .u32 a8, .int .u32 a9, .slice A 16 c, .slice pa tn pc] rfl
        have bH6 : (((((((((w5.setCell ⟨w.heap.size + 1, 0, none⟩ (.int .u8 0)).setCell ⟨w.heap.size + 1, 1, none⟩ (.int .u16 0)).setCell ⟨w.heap.size + 1, 2, none⟩ (.int .u16 0)).setCell ⟨w.heap.size + 1, 3, none⟩ (.int .u8 64)).setCell ⟨w.heap.size + 1, 4, none⟩ (.int .u8 4)).setCell ⟨w.heap.size + 1, 5, none⟩ (.int .u32 a8)).setCell ⟨w.heap.size + 1, 6, none⟩ (.int .u32 a9)).setCell ⟨w.heap.size + 1, 7, none⟩ (.slice A 16 c)).setCell ⟨w.heap.size + 1, 8, none⟩ (.slice pa tn pc)).heap[ah]? = some (.cells #[.int .u8 s1, .int .u16 s3, .int .u16 s4, .int .u8 s5, .int .u8 s6, .int .u32 s8, .int .u32 s9, .slice oa on oc, .slice pa tn pc] 51 (0, 0)) := (heap_scs_ne (w.heap.size + 1) ah (Ne.symm HNE.out.2) [.int .u8 0, .int .u16 0, .int .u16 0, .int .u8 64, .int .u8 4, .int .u32 a8, .int .u32 a9, .slice A 16 c, .slice pa tn pc] 0 w5).trans k3
        have L6 : Below w.heap.size w (((((((((w5.setCell ⟨w.heap.size + 1, 0, none⟩ (.int .u8 0)).setCell ⟨w.heap.size + 1, 1, none⟩ (.int .u16 0)).setCell ⟨w.heap.size + 1, 2, none⟩ (.int .u16 0)).setCell ⟨w.heap.size + 1, 3, none⟩ (.int .u8 64)).setCell ⟨w.heap.size + 1, 4, none⟩ (.int .u8 4)).setCell ⟨w.heap.size + 1, 5, none⟩ (.int .u32 a8)).setCell ⟨w.heap.size + 1, 6, none⟩ (.int .u32 a9)).setCell ⟨w.heap.size + 1, 7, none⟩ (.slice A 16 c)).setCell ⟨w.heap.size + 1, 8, none⟩ (.slice pa tn pc)) := below_setCells (w.heap.size + 1) (by omega) [.int .u8 0, .int .u16 0, .int .u16 0, .int .u8 64, .int .u8 4, .int .u32 a8, .int .u32 a9, .slice A 16 c, .slice pa tn pc] 0 w _ k4
        have OT6 : (((((((((w5.setCell ⟨w.heap.size + 1, 0, none⟩ (.int .u8 0)).setCell ⟨w.heap.size + 1, 1, none⟩ (.int .u16 0)).setCell ⟨w.heap.size + 1, 2, none⟩ (.int .u16 0)).setCell ⟨w.heap.size + 1, 3, none⟩ (.int .u8 64)).setCell ⟨w.heap.size + 1, 4, none⟩ (.int .u8 4)).setCell ⟨w.heap.size + 1, 5, none⟩ (.int .u32 a8)).setCell ⟨w.heap.size + 1, 6, none⟩ (.int .u32 a9)).setCell ⟨w.heap.size + 1, 7, none⟩ (.slice A 16 c)).setCell ⟨w.heap.size + 1, 8, none⟩ (.slice pa tn pc)).ownsRow w.heap.size 5 1 (.slice pa tn pc) tn (tb.map (Value.int .u8)) := own_apartN (by decide) [.int .u8 0, .int .u16 0, .int .u16 0, .int .u8 64, .int .u8 4, .int .u32 a8, .int .u32 a9, .slice A 16 c, .slice pa tn pc] 0 _ _ k5 k2
        have OU6 : (((((((((w5.setCell ⟨w.heap.size + 1, 0, none⟩ (.int .u8 0)).setCell ⟨w.heap.size + 1, 1, none⟩ (.int .u16 0)).setCell ⟨w.heap.size + 1, 2, none⟩ (.int .u16 0)).setCell ⟨w.heap.size + 1, 3, none⟩ (.int .u8 64)).setCell ⟨w.heap.size + 1, 4, none⟩ (.int .u8 4)).setCell ⟨w.heap.size + 1, 5, none⟩ (.int .u32 a8)).setCell ⟨w.heap.size + 1, 6, none⟩ (.int .u32 a9)).setCell ⟨w.heap.size + 1, 7, none⟩ (.slice A 16 c)).setCell ⟨w.heap.size + 1, 8, none⟩ (.slice pa tn pc)).ownsRow w.heap.size 5 1 (.slice oa on oc) on (ob.map (Value.int .u8)) := own_apartN (by decide) [.int .u8 0, .int .u16 0, .int .u16 0, .int .u8 64, .int .u8 4, .int .u32 a8, .int .u32 a9, .slice A 16 c, .slice pa tn pc] 0 _ _ k6 k2
        have RG6 : Row .u8 (((((((((w5.setCell ⟨w.heap.size + 1, 0, none⟩ (.int .u8 0)).setCell ⟨w.heap.size + 1, 1, none⟩ (.int .u16 0)).setCell ⟨w.heap.size + 1, 2, none⟩ (.int .u16 0)).setCell ⟨w.heap.size + 1, 3, none⟩ (.int .u8 64)).setCell ⟨w.heap.size + 1, 4, none⟩ (.int .u8 4)).setCell ⟨w.heap.size + 1, 5, none⟩ (.int .u32 a8)).setCell ⟨w.heap.size + 1, 6, none⟩ (.int .u32 a9)).setCell ⟨w.heap.size + 1, 7, none⟩ (.slice A 16 c)).setCell ⟨w.heap.size + 1, 8, none⟩ (.slice pa tn pc)).heap.size (((((((((w5.setCell ⟨w.heap.size + 1, 0, none⟩ (.int .u8 0)).setCell ⟨w.heap.size + 1, 1, none⟩ (.int .u16 0)).setCell ⟨w.heap.size + 1, 2, none⟩ (.int .u16 0)).setCell ⟨w.heap.size + 1, 3, none⟩ (.int .u8 64)).setCell ⟨w.heap.size + 1, 4, none⟩ (.int .u8 4)).setCell ⟨w.heap.size + 1, 5, none⟩ (.int .u32 a8)).setCell ⟨w.heap.size + 1, 6, none⟩ (.int .u32 a9)).setCell ⟨w.heap.size + 1, 7, none⟩ (.slice A 16 c)).setCell ⟨w.heap.size + 1, 8, none⟩ (.slice pa tn pc)) A (optB f0 f1 f2 f3 f4 f5) := row_apart k2 HR5.out.2.2 (by simp [optB]) [.int .u8 0, .int .u16 0, .int .u16 0, .int .u8 64, .int .u8 4, .int .u32 a8, .int .u32 a9, .slice A 16 c, .slice pa tn pc]
        clear k1 k2 k3 k4 k5 k6 p0 p1 p2 p3 p4 p5 p6 p7 p8 f0' f1' f2' f3' f4' f5' f6' f7' f8' HX5
        generalize ((((((((w5.setCell ⟨w.heap.size + 1, 0, none⟩ (.int .u8 0)).setCell ⟨w.heap.size + 1, 1, none⟩ (.int .u16 0)).setCell ⟨w.heap.size + 1, 2, none⟩ (.int .u16 0)).setCell ⟨w.heap.size + 1, 3, none⟩ (.int .u8 64)).setCell ⟨w.heap.size + 1, 4, none⟩ (.int .u8 4)).setCell ⟨w.heap.size + 1, 5, none⟩ (.int .u32 a8)).setCell ⟨w.heap.size + 1, 6, none⟩ (.int .u32 a9)).setCell ⟨w.heap.size + 1, 7, none⟩ (.slice A 16 c)).setCell ⟨w.heap.size + 1, 8, none⟩ (.slice pa tn pc) = W6 at *
        obtain ⟨x0, x1, x2, x3, x4, x5, x6, x7, x8⟩ := head_cells _ _ _ _ _ _ _ _ _ _ _ _ _ bH6
        obtain ⟨y0, y1, y2, y3, y4, y5, y6, y7, y8⟩ := head_cells _ _ _ _ _ _ _ _ _ _ _ _ _ bA6
        have RT6 := Row.of_own OT6 (in_wf8 HIT.out.1)
        have RU6 := Row.of_own OU6 (in_wf8 HIT.out.2.1)
        have KS := Lib.hid (ipSame_any s1 s3 s4 s5 s6 s8 s9 oa on oc pa tn pc 0 0 0 64 4 a8 a9 A 16 c pa tn pc ob tb (optB f0 f1 f2 f3 f4 f5) tb _ _ W6 (Nat.le_refl _) (Nat.le_refl _) RU6 HIT.out.2.2.2 RT6 HIT.out.2.2.1 RG6 rfl RT6 HIT.out.2.2.1)
        have HX6 := Lib.hid (And.intro bR6 (And.intro L6 OT6))
        clear bR6 bA6 bH6 L6 OT6 OU6 RT6 RU6 RG6
        go_wp2_with (fail)
        refine KS.out.mono ?_
        rintro e w7 ⟨rfl, m7⟩
        have bR7 := (m7.block _ (Array.getElem?_eq_some_iff.1 HX6.out.1).1).trans HX6.out.1
        have L7 := HX6.out.2.1.trans (m7.mono HX6.out.2.1.size)
        have OT7 := own_below HX6.out.2.2 m7
        have HX7 := Lib.hid (And.intro bR7 (And.intro L7 OT7))
        clear x0 x1 x2 x3 x4 x5 x6 x7 x8 y0 y1 y2 y3 y4 y5 y6 y7 y8 KS HX6 m7 L7 OT7
        rw [HOK.out] at HE
        cases hsm : sameB s1 s3 s4 s5 s6 s8 s9 ob tb 0 0 0 64 4 a8 a9 (optB f0 f1 f2 f3 f4 f5) tb
        · have HNO := Lib.hid (show etOk bs = false by rw [HE.out, hsm]; rfl)
          clear hsm bR7
          go_wp2
          go_step3
          exact ⟨rfl, HX7.out.2.1, HNO.out, ⟨_, _, _, _, _, _, _, _, _, _, _, _, _, HX7.out.1⟩, _, _, _, _, _, _, _, _, _, _, _, _, _, _, _, _, _, _, _, _, _, _, _, _, _, _, _, _, _, _, rfl⟩
        · have HYES := Lib.hid (show etOk bs = true by rw [HE.out, hsm]; rfl)
          obtain ⟨q0, q1, q2, q3, q4, q5, q6, q7, q8, q9, q10⟩ := wr_cells _ _ _ _ _ _ _ _ _ _ _ _ _ bR7
          have g0 := wr_frozen bR7 0
          have g1 := wr_frozen bR7 1
          have g2 := wr_frozen bR7 2
          have g3 := wr_frozen bR7 3
          have g4 := wr_frozen bR7 4
          have g5 := wr_frozen bR7 5
          have g6 := wr_frozen bR7 6
          have g7 := wr_frozen bR7 7
          have g8 := wr_frozen bR7 8
          have g9 := wr_frozen bR7 9
          have g10 := wr_frozen bR7 10
          clear hsm bR7
          go_wp2
          refine bodyPost_ret (results_wr rfl _ _ w.heap.size _ (0, 0) rfl (full_setCells HX7.out.1 [.int .u8 d0, .int .i64 d1, .int .u8 d2, .int .i64 d3, .int .u8 f0, .int .u8 f1, .int .i64 f2, .int .i64 f3, .int .i64 f4, .int .i64 f5, .slice pa tn pc] rfl) rfl) rfl ?_
          have hy0 : otY (etOpt bs) = 0 := (et_facts HYES.out).2.1
          have hV : otV ob = (f0, f1, f2, f3, f4, f5) := by
            have h := HF.out.2.2
            unfold otF at h
            rwa [if_pos (HQ.out.2.2.2 ▸ hy0)] at h
          unfold EnTakeRet
          rw [HQ.out.1, HQ.out.2.1, HQ.out.2.2.1, HQ.out.2.2.2, HF.out.1, HF.out.2.1, hV, HIT.out.2.2.1]
          exact .inr ⟨HYES.out, pa, pc, rfl, own_apartN (by decide) [.int .u8 d0, .int .i64 d1, .int .u8 d2, .int .i64 d3, .int .u8 f0, .int .u8 f1, .int .i64 f2, .int .i64 f3, .int .i64 f4, .int .i64 f5, .slice pa tn pc] 0 _ _ HX7.out.2.2 HX7.out.1, below_setCells w.heap.size (Nat.le_refl _) [.int .u8 d0, .int .i64 d1, .int .u8 d2, .int .i64 d3, .int .u8 f0, .int .u8 f1, .int .i64 f2, .int .i64 f3, .int .i64 f4, .int .i64 f5, .slice pa tn pc] 0 w _ HX7.out.2.1⟩
end Go.Proofs.YthenbpnlmpeafaaDoor
