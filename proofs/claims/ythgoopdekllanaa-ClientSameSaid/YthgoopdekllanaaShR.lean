/- A sheet of bytes: package sheet's Take, walked. -/
import Derived.Test.YthgoopdekllanaaShQ
namespace Go.Proofs.Ythgoopdekllanaa
open Go.RowKit Go.Shelf
open SumM

attribute [local go_sem] Oper.semAt_some

set_option maxRecDepth 100000 in
set_option maxHeartbeats 8000000 in
theorem sTake_in (n : Nat) (hn : 12 ≤ n) (a : Option Addr) (len cap : Nat) (bs : List Int) (hl : bs.length = len) (hlc : len ≤ cap) (hs : len ≤ 10000) (w : World) (h : Row .u8 w.heap.size w a bs) :
    CallsIn Fence.wide n Try.prog 17 #[.slice a len cap] w (ShRet (tkS bs) w) := by
  have h1n : 1 ≤ n := by omega
  refine callsIn_of_wp_marks Try.func17 rfl trivial ?_ rfl
  simp only [Try.ntmps17, List.size_toArray, List.length_cons, List.length_nil, Nat.reduceAdd, Nat.reduceSub, Array.replicate_succ, Array.replicate_zero, List.push_toArray, List.append_toArray, List.nil_append, List.cons_append]
  have HI := Lib.hid (row_in h)
  have HR := Lib.hid h
  have HL := Lib.hid (And.intro hl (And.intro hlc hs))
  clear h hl hs
  have bB := blkN (blkN (blkN (heap_alloc_new w (.cells #[.slice a len cap] 30)) (.cells #[.int .i64 0, .int .i64 0, .slice none 0 0] 29)) (.cells #[.int .i64 0, .int .i64 0, .slice none 0 0] 29)) (.cells #[.int .i64 0] 3)
  have bR := blkN (blkN (newN (w.alloc (.cells #[.slice a len cap] 30)) (.cells #[.int .i64 0, .int .i64 0, .slice none 0 0] 29) (w.heap.size + 1) (by simp)) (.cells #[.int .i64 0, .int .i64 0, .slice none 0 0] 29)) (.cells #[.int .i64 0] 3)
  have bS := blkN (newN ((w.alloc (.cells #[.slice a len cap] 30)).alloc (.cells #[.int .i64 0, .int .i64 0, .slice none 0 0] 29)) (.cells #[.int .i64 0, .int .i64 0, .slice none 0 0] 29) (w.heap.size + 2) (by simp)) (.cells #[.int .i64 0] 3)
  have bC := newN (((w.alloc (.cells #[.slice a len cap] 30)).alloc (.cells #[.int .i64 0, .int .i64 0, .slice none 0 0] 29)).alloc (.cells #[.int .i64 0, .int .i64 0, .slice none 0 0] 29)) (.cells #[.int .i64 0] 3) (w.heap.size + 3) (by simp)
  have L0 := ((((Below.refl w.heap.size w).alloc (Nat.le_refl _) (.cells #[.slice a len cap] 30)).alloc (by simp) (.cells #[.int .i64 0, .int .i64 0, .slice none 0 0] 29)).alloc (by simp; omega) (.cells #[.int .i64 0, .int .i64 0, .slice none 0 0] 29)).alloc (by simp; omega) (.cells #[.int .i64 0] 3)
  have hZ : ((((w.alloc (.cells #[.slice a len cap] 30)).alloc (.cells #[.int .i64 0, .int .i64 0, .slice none 0 0] 29)).alloc (.cells #[.int .i64 0, .int .i64 0, .slice none 0 0] 29)).alloc (.cells #[.int .i64 0] 3)).heap.size = w.heap.size + 4 := by simp
  have cB := cell_of_one bB
  gi_wp2_with fail
  rw [wpIn_wide]
  refine wp_scope_jumps 0 (fun a' w' => ∃ (y : Int) (Ds : List Nat), Below w.heap.size w w' ∧ tkS bs = (0, 0, [], y) ∧ w'.heap[w.heap.size + 1]? = some (.cells #[.int .i64 0, .int .i64 0, .slice none 0 0] 29 (0, 0)) ∧ Marks w.heap.size Ds w' ∧ ∃ (u0 u3 u4 u5 u7 u8 u9 u10 u11 u12 u13 u14 u15 u16 u17 u18 u19 u20 u21 u22 u23 u24 u25 u26 u27 u28 u29 u30 u31 u32 u33 u34 u35 : Value), a' = { tmps := #[u0, .pointer (some ⟨w.heap.size, 0, none⟩), .pointer (some ⟨w.heap.size + 1, 0, none⟩), u3, u4, u5, .int .i64 y, u7, u8, u9, u10, u11, u12, u13, u14, u15, u16, u17, u18, u19, u20, u21, u22, u23, u24, u25, u26, u27, u28, u29, u30, u31, u32, u33, u34, u35], defers := Ds.map mkD }) (fun _ _ => 0) rfl ?first ?pass
  case pass =>
    rintro a' w' ⟨y, Ds, LL, hf, hr, hm, u0, u3, u4, u5, u7, u8, u9, u10, u11, u12, u13, u14, u15, u16, u17, u18, u19, u20, u21, u22, u23, u24, u25, u26, u27, u28, u29, u30, u31, u32, u33, u34, u35, rfl⟩
    obtain ⟨y0, y1, y2⟩ := sh_cells _ _ _ _ _ hr
    have f0 := sh_frozen hr 0
    have f1 := sh_frozen hr 1
    have f3 := sh_frozen hr 2
    have HE := Lib.hid (And.intro LL (And.intro hf (And.intro hr hm)))
    clear LL hf hr hm bB bR bS bC L0 hZ cB
    go_wp2
    simp only [Exit.jump]
    refine leaves_marks (S := w.heap.size) Ds _ (HE.out.2.2.2.keep ((KeepsOthers.setCell _ _ _).trans ((KeepsOthers.setCell _ _ _).trans (KeepsOthers.setCell _ _ _)))) ?_
    intro w2 hw2
    have hfull := full_setCells HE.out.2.2.1 [.int .i64 0, .int .i64 0, .slice none 0 0] rfl
    refine ⟨_, results_sh2 rfl _ _ (w.heap.size + 1) _ (0, 0) rfl (hw2.2 _ _ _ _ hfull) rfl, ?_⟩
    rw [HE.out.2.1]
    exact ⟨_, rfl, World.ownsRow_nil _ _ _ _, (below_setCells (w.heap.size + 1) (by omega) [.int .i64 0, .int .i64 0, .slice none 0 0] 0 w _ HE.out.1).trans hw2.1⟩
  case first =>
    rw [← wpIn_wide (n := n)]
    by_cases h13 : len < 13
    · have q1 : decide ((len : Int) < 13) = true := decide_eq_true (by omega)
      have HE := Lib.hid (show tkS bs = (0, 0, [], 61) by unfold tkS; rw [HL.out.1, if_pos h13])
      have HX := Lib.hid (And.intro L0 bR)
      clear bB bR bS bC L0
      gi_wp2
      refine wpIn_goto ?_
      simp only [Exit.then]
      exact ⟨rfl, 61, [], HX.out.1, HE.out, HX.out.2, ⟨fun D h => absurd h (by simp), by simp⟩, _, _, _, _, _, _, _, _, _, _, _, _, _, _, _, _, _, _, _, _, _, _, _, _, _, _, _, _, _, _, _, _, _, rfl⟩
    have q1 : decide ((len : Int) < 13) = false := decide_eq_false (by omega)
    obtain ⟨b0, off0, rfl, hb0, _⟩ := HR.out.2 (by have := HL.out; omega)
    gi_wp2_with fail
    have T0 : TB w len cap bs 0 ((((w.alloc (.cells #[.slice (some ⟨b0, off0, none⟩) len cap] 30)).alloc (.cells #[.int .i64 0, .int .i64 0, .slice none 0 0] 29)).alloc (.cells #[.int .i64 0, .int .i64 0, .slice none 0 0] 29)).alloc (.cells #[.int .i64 0] 3)) :=
      ⟨⟨b0, off0, by simpa [hO] using bB, by simpa [hO] using HR.out.below L0⟩, bR, by simpa [hF] using bS, by simpa [hF] using bC, L0⟩
    clear bB bR bS bC L0 cB
    generalize (((w.alloc (.cells #[.slice (some ⟨b0, off0, none⟩) len cap] 30)).alloc (.cells #[.int .i64 0, .int .i64 0, .slice none 0 0] 29)).alloc (.cells #[.int .i64 0, .int .i64 0, .slice none 0 0] 29)).alloc (.cells #[.int .i64 0] 3) = W3 at *
    refine ⟨trivial, (headNumbers_in (n - 1) (w.heap.size + 2) (w.heap.size + 3) W3).mono ?_⟩
    rintro e w4 ⟨rfl, rfl⟩
    have h1 := blkN (heap_alloc_new W3 (.cells #[.pointer (some ⟨w.heap.size + 2, 0, none⟩)] 78)) (.cells #[.pointer (some ⟨w.heap.size + 3, 0, none⟩)] 79)
    have h2 := newN (W3.alloc (.cells #[.pointer (some ⟨w.heap.size + 2, 0, none⟩)] 78)) (.cells #[.pointer (some ⟨w.heap.size + 3, 0, none⟩)] 79) (W3.heap.size + 1) (by simp)
    have M4 := ((Below.refl W3.heap.size W3).alloc (Nat.le_refl _) (.cells #[.pointer (some ⟨w.heap.size + 2, 0, none⟩)] 78)).alloc (by simp) (.cells #[.pointer (some ⟨w.heap.size + 3, 0, none⟩)] 79)
    have T4 := T0.far M4
    have hz4 : w.heap.size ≤ ((W3.alloc (.cells #[.pointer (some ⟨w.heap.size + 2, 0, none⟩)] 78)).alloc (.cells #[.pointer (some ⟨w.heap.size + 3, 0, none⟩)] 79)).heap.size := T4.lo.size
    rw [hZ] at h2 ⊢
    have hnb := show W3.heap.size = w.heap.size + 4 from hZ
    rw [hnb] at h1
    clear T0 M4
    generalize (W3.alloc (.cells #[.pointer (some ⟨w.heap.size + 2, 0, none⟩)] 78)).alloc (.cells #[.pointer (some ⟨w.heap.size + 3, 0, none⟩)] 79) = W4 at *
    have HT4 := Lib.hid T4
    have H12 := Lib.hid (And.intro h1 h2)
    clear T4 h1 h2
    gi_wp2_with fail
    refine range_okT rfl h1n (gf := 68) (lb := #[.pointer (some ⟨w.heap.size + 4, 0, none⟩), .pointer (some ⟨w.heap.size + 4 + 1, 0, none⟩)]) rfl trivial (enters_of Try.func68 (by kernel_rfl) rfl)
      (encs := hnE (w.heap.size + 2) (w.heap.size + 3)) (Ok := fun pre x _ => x = pre.length ∧ x < 3) (Kp := KeepT w.heap.size pTs) (S := fun xs => xs = [0, 1, 2]) (Sp := fun _ => True)
      (fun l J Jx W m hN _ _ hY h0 => headNums_in (n - 1) (by omega) l (w.heap.size + 4) (w.heap.size + 4 + 1) (w.heap.size + 2) (w.heap.size + 3) w.heap.size W J Jx (bbW H12.out.1 m) (bbW H12.out.2 m) (fun pre x V hj ho => dropK (hY pre x V hj ho)) h0) (fun _ _ _ _ _ _ h _ _ _ => h) keepT_t (fun W l o o' h1 h2 h3 h4 => keepT_b hz4 W l o o' h1 h2 h3 h4) (fun _ => rfl)
      (fun pre W => TB w len cap bs pre.length W) (fun _ _ _ => False) ⟨fun _ _ _ h k => h.far k, fun _ _ l o o' h hl ho hc => h.turn o' (by omega) ho hc⟩ (fun _ => Abide4.none _) HT4.out
      (fun k => .cells #[.pointer (some (hnA (w.heap.size + 2) (w.heap.size + 3) k)), .int .i64 (hnP k), .int .i64 (hnW k : Nat)] 81) (fun W _ h => keepT_new _ (by omega)) (fun _ _ _ h => h)
      (fun k b => { tmps := #[.slice (some ⟨b0, off0, none⟩) len cap, .pointer (some ⟨w.heap.size, 0, none⟩), .pointer (some ⟨w.heap.size + 1, 0, none⟩), .int .i64 0, .pointer (some ⟨w.heap.size + 1 + 1, 0, none⟩), .pointer (some ⟨w.heap.size + 1 + 1 + 1, 0, none⟩), .int .i64 61, .pointer (some ⟨b, 0, none⟩), .slice (some ⟨b0, off0, none⟩) len cap, .int .i64 (len : Nat), .bool false, .func (.func 68) #[] #[.pointer (some ⟨w.heap.size + 4, 0, none⟩), .pointer (some ⟨w.heap.size + 4 + 1, 0, none⟩)], nmV (hnA (w.heap.size + 2) (w.heap.size + 3) k) (hnP k) (hnW k : Nat), undef, undef, undef, undef, undef, undef, undef, undef, undef, undef, undef, undef, undef, undef, undef, undef, undef, undef, undef, undef, undef, undef, undef], defers := [] }) ?assign ?body ?done ?stop
    case assign =>
      intro l x W K hK
      simp only [hnE] at hK ⊢
      gi_wp2
      exact hK
    case stop =>
      rintro D c pre W hD _ h
      exact h.elim
    case body =>
      rintro l pre k U bn hT ⟨hk, hk3⟩ hb1 hb2 hbx
      subst hk
      obtain ⟨x, hx, fx, hlt, hge⟩ := hT.cell hk3
      obtain ⟨g1, g2, g3, g4, g5⟩ := hO_succ hk3
      obtain ⟨ba, oa, hA, hRowA⟩ := hT.bx
      have hnU : w.heap.size ≤ U.heap.size := hT.lo.size
      have hlc2 : (bs.drop (hO pre.length)).length = len - hO pre.length := by rw [List.length_drop, HL.out.1]
      have KT := Lib.hid (ntake_any (hnB (w.heap.size + 2) (w.heap.size + 3) pre.length) (hnO pre.length) x (hnP pre.length) g5 (hnW pre.length) ⟨g3, g4⟩ ba oa (len - hO pre.length) (cap - hO pre.length) (bs.drop (hO pre.length)) hlc2 (by omega) (by omega) U w.heap.size hnU hlt hx fx hRowA)
      have e1 : len - hO pre.length - hnW pre.length = len - hO (pre.length + 1) := by omega
      have e2 : cap - hO pre.length - hnW pre.length = cap - hO (pre.length + 1) := by omega
      have cv := cell_of_one hA
      obtain ⟨c0, c1, c2⟩ := numb_cells hbx
      have HT := Lib.hid hT
      have HA := Lib.hid hA
      have hnn : hnB (w.heap.size + 2) (w.heap.size + 3) pre.length ≠ w.heap.size := by omega
      clear hT hA hRowA hx fx hlt hge hnU hlc2 hbx g1 g2 g3 g4 g5
      gi_wp2_with fail
      refine ⟨trivial, (fun _ => by omega), CallsIn.inRound l (callsIn_wide.2 (KT.out.mono ?_))⟩
      rintro e U2 ⟨he, W1', mW1, kW1, rfl, hRow2⟩
      rw [e1, e2] at he
      have hA2 : ∃ b off, (if cap - hO pre.length = hnW pre.length then some ⟨ba, oa, none⟩ else some ⟨ba, oa + hnW pre.length, none⟩ : Option Addr) = some ⟨b, off, none⟩ := by split <;> exact ⟨_, _, rfl⟩
      obtain ⟨bA, oA, hA2⟩ := hA2
      rw [hA2] at he hRow2
      subst he
      have HX := Lib.hid (HT.out.next hk3 rfl mW1 kW1 hRow2)
      have hb1' : ((W1'.setCell (hnA (w.heap.size + 2) (w.heap.size + 3) pre.length) (.int .i64 (numOf ((bs.drop (hO pre.length)).take (hnW pre.length)) - hnP pre.length))).heap[w.heap.size]? = some (.cells #[.slice (some ⟨ba, oa, none⟩) (len - hO pre.length) (cap - hO pre.length)] 30 (0, 0))) := (Below.heap_setCell _ _ _ _ (by simpa using hnn.symm)).trans (bbW HA.out mW1)
      have cv1 := cell_of_one hb1'
      have fv1 := sh_frozen hb1' 0
      clear mW1 kW1 hRow2 hA2 hb1' cv c0 c1 c2 e1 e2
      gi_wp2
      exact ⟨HX.out.2.1.from _, HX.out.2.2, by (show TB w len cap bs (pre ++ [pre.length]).length _); rw [List.length_append, List.length_singleton]; exact HX.out.1⟩
    case done =>
      rintro D ys W hD rfl hT hK
      simp only [List.length_cons, List.length_nil, Nat.reduceAdd] at hT
      obtain ⟨ba, oa, hA, hRowA⟩ := hT.bx
      have cv := cell_of_one hA
      have cc := cell_of_one hT.ct
      have hv2 : 0 ≤ hv bs 2 ∧ hv bs 2 ≤ 255 := by
        have := num_lt ((bs.drop (hO 2)).take (hnW 2)) (in_take (in_drop HI.out _) _) 1 (by rw [List.length_take]; simp [hnW]; omega)
        simp at this
        simp only [hv, hnP]
        omega
      obtain ⟨m, hm⟩ : ∃ m : Nat, hv bs 2 = (m : Int) := ⟨(hv bs 2).toNat, by omega⟩
      have hF2 : hF bs 3 2 = (m : Int) := by rw [hF, if_pos (by omega), hm]
      have hF0 : hF bs 3 0 = hv bs 0 := by rw [hF, if_pos (by omega)]
      have hF1 : hF bs 3 1 = hv bs 1 := by rw [hF, if_pos (by omega)]
      rw [hF2] at cc
      have hm255 : m ≤ 255 := by omega
      have HTK := Lib.hid (show tkS bs = if len < 13 + 13 * m then (0, 0, [], 61) else if 13 + 13 * m < len then (0, 0, [], 60) else if shOk (hv bs 0) (hv bs 1) (rowsOf m (bs.drop 13)) = true then (hv bs 0, hv bs 1, rowsOf m (bs.drop 13), 0) else (0, 0, [], 60) by
        unfold tkS
        rw [HL.out.1, if_neg h13, hm, Int.toNat_natCast])
      have HM := Lib.hid (Marks.one hK (show w.heap.size ≤ D by omega))
      have HT := Lib.hid hT
      have HAR := Lib.hid (And.intro hA hRowA)
      have HFF := Lib.hid (And.intro hF0 hF1)
      clear hv2 hm hF2 hF0 hF1 hK hT hA hRowA
      simp only [show hO 3 = 13 from rfl] at cv HAR
      by_cases hs : len < 13 + 13 * m
      · have q2 : decide (((len - 13 : Nat) : Int) < (m : Int) * 13) = true := decide_eq_true (by omega)
        have HE := Lib.hid (show tkS bs = (0, 0, [], 61) by rw [HTK.out, if_pos hs])
        gi_wp2
        refine wpIn_goto ?_
        simp only [Exit.then]
        exact ⟨rfl, 61, [D], HT.out.lo, HE.out, HT.out.rs, HM.out, _, _, _, _, _, _, _, _, _, _, _, _, _, _, _, _, _, _, _, _, _, _, _, _, _, _, _, _, _, _, _, _, _, rfl⟩
      have q2 : decide (((len - 13 : Nat) : Int) < (m : Int) * 13) = false := decide_eq_false (by omega)
      by_cases hg : 13 + 13 * m < len
      · have q3 : decide ((m : Int) * 13 < ((len - 13 : Nat) : Int)) = true := decide_eq_true (by omega)
        have HE := Lib.hid (show tkS bs = (0, 0, [], 60) by rw [HTK.out, if_neg hs, if_pos hg])
        gi_wp2
        refine wpIn_goto ?_
        simp only [Exit.then]
        exact ⟨rfl, 60, [D], HT.out.lo, HE.out, HT.out.rs, HM.out, _, _, _, _, _, _, _, _, _, _, _, _, _, _, _, _, _, _, _, _, _, _, _, _, _, _, _, _, _, _, _, _, _, rfl⟩
      have q3 : decide ((m : Int) * 13 < ((len - 13 : Nat) : Int)) = false := decide_eq_false (by omega)
      have HTK2 := Lib.hid (show tkS bs = if shOk (hv bs 0) (hv bs 1) (rowsOf m (bs.drop 13)) = true then (hv bs 0, hv bs 1, rowsOf m (bs.drop 13), 0) else (0, 0, [], 60) by rw [HTK.out, if_neg hs, if_neg hg])
      gi_wp2_with fail
      refine ⟨trivial, (rowsIn_in (n - 1) (some ⟨ba, oa, none⟩) (len - 13) (cap - 13) W).mono ?_⟩
      rintro e w5 ⟨rfl, rfl⟩
      have hnb := heap_alloc_new W (.cells #[.slice (some ⟨ba, oa, none⟩) (len - 13) (cap - 13)] 30)
      have M5 := (Below.refl W.heap.size W).alloc (Nat.le_refl _) (.cells #[.slice (some ⟨ba, oa, none⟩) (len - 13) (cap - 13)] 30)
      have T5 := HT.out.far M5
      have R5 : Row .u8 w.heap.size _ (some ⟨ba, oa, none⟩) (bs.drop 13) := HAR.out.2.below (M5.mono HT.out.lo.size)
      have HM5 := Lib.hid (HM.out.far M5)
      have hS5 : w.heap.size ≤ W.heap.size := HT.out.lo.size
      clear cv cc M5
      generalize W.heap.size = nb at *
      generalize W.alloc (.cells #[.slice (some ⟨ba, oa, none⟩) (len - 13) (cap - 13)] 30) = W5 at *
      have hs5 : w.heap.size ≤ W5.heap.size := T5.lo.size
      have hdl : (bs.drop 13).length = len - 13 := by rw [List.length_drop, HL.out.1]
      have KC := Lib.hid (collectR_any 70 #[.pointer (some ⟨nb, 0, none⟩)] (rowsOf m (bs.drop 13)) (by rw [rowsOf_len]; omega) W5 (enters_of Try.func70 (by kernel_rfl) rfl)
        (fun Wq mq => rowsIn_ok 9 (by omega) ba oa m (len - 13) (cap - 13) nb W5.heap.size (bs.drop 13) hdl (by omega) (by omega) (by omega) Wq mq.size (bbW hnb mq) ((R5.more hs5).below mq)))
      have HT5 := Lib.hid T5
      clear T5 R5 hnb
      have hrl := rowsOf_len m (bs.drop 13)
      generalize rowsOf m (bs.drop 13) = rows at *
      gi_wp2_with fail
      refine ⟨trivial, (callsIn_wide.2 KC.out).mono ?_⟩
      rintro e w6 ⟨v', rfl, O6, m6⟩
      obtain ⟨A, c, rfl, hc0, hc1, hc2⟩ := ownS_slice O6
      rw [hrl] at O6 hc1
      simp only [hrl]
      have T6 := HT5.out.far m6
      have h6 := T6.sh
      rw [HFF.out.1, HFF.out.2] at h6
      have f6 := sh_frozen h6 2
      obtain ⟨y0, y1, y2⟩ := sh_cells _ _ _ _ _ h6
      have HM6 := Lib.hid (HM5.out.far m6)
      have O6' := ownS_base O6 hs5
      have f7 : (w6.setCell ⟨w.heap.size + 2, 2, none⟩ (.slice A m c)).heap[w.heap.size + 2]? = some (.cells #[.int .i64 (hv bs 0), .int .i64 (hv bs 1), .slice A m c] 29 (0, 0)) := heap_setCell_same w6 (w.heap.size + 2) 2 _ _ (.slice A m c) h6
      have r7 : (w6.setCell ⟨w.heap.size + 2, 2, none⟩ (.slice A m c)).heap[w.heap.size + 1]? = _ := (Below.heap_setCell _ _ _ _ (by simp)).trans T6.rs
      have O7 := ownS_apart (by decide) [.slice A m c] 2 _ _ O6' h6
      have L7 : Below w.heap.size w (w6.setCell ⟨w.heap.size + 2, 2, none⟩ (.slice A m c)) := T6.lo.setCell (p := ⟨w.heap.size + 2, 2, none⟩) (by simp) _
      have M7 := HM6.out.keep (KeepsOthers.setCell w6 ⟨w.heap.size + 2, 2, none⟩ (.slice A m c))
      have O7' : (w6.setCell ⟨w.heap.size + 2, 2, none⟩ (.slice A m c)).ownsRow w.heap.size 63 5 (.slice A m c) m (flatS rowC rows) := O7
      have H7 := Lib.hid (And.intro f7 (And.intro r7 (And.intro O7' (And.intro L7 M7))))
      clear O6 O6' T6 m6 hc0 hc1 hc2 h6 O7 O7' L7 M7 r7 KC
      gi_wp2_with fail
      clear y0 y1 y2 f6 f7
      generalize w6.setCell ⟨w.heap.size + 2, 2, none⟩ (.slice A m c) = W7 at *
      have hrow : SRow5 W7.heap.size W7 A rows := SRow.of_own rowC_len (by decide) H7.out.2.2.1
      obtain ⟨g, hg⟩ : ∃ g, shOk (hv bs 0) (hv bs 1) rows = g := ⟨_, rfl⟩
      have KR := Lib.hid (hg ▸ sRight_any (hv bs 0) (hv bs 1) A m c rows hrl (by omega) W7 hrow)
      have HTK3 := Lib.hid (show tkS bs = if g = true then (hv bs 0, hv bs 1, rows, 0) else (0, 0, [], 60) by rw [HTK2.out, hg])
      clear hg hrow
      refine ⟨trivial, (callsIn_wide.2 KR.out).mono ?_⟩
      rintro e w8 ⟨rfl, m8⟩
      have L8 := H7.out.2.2.2.1.trans (m8.mono H7.out.2.2.2.1.size)
      have M8 := H7.out.2.2.2.2.far m8
      have r8 := bbW H7.out.2.1 m8
      cases g
      · have HE := Lib.hid (And.intro L8 (And.intro M8 r8))
        clear L8 M8 r8 m8
        gi_wp2
        refine wpIn_goto ?_
        simp only [Exit.then]
        exact ⟨rfl, 60, [D], HE.out.1, by rw [HTK3.out]; rfl, HE.out.2.2, HE.out.2.1, _, _, _, _, _, _, _, _, _, _, _, _, _, _, _, _, _, _, _, _, _, _, _, _, _, _, _, _, _, _, _, _, _, rfl⟩
      · have s8 := bbW H7.out.1 m8
        have O8 := ownS_below H7.out.2.2.1 m8
        obtain ⟨x0, x1, x2⟩ := sh_cells _ _ _ _ _ s8
        obtain ⟨y0, y1, y2⟩ := sh_cells _ _ _ _ _ r8
        have f0 := sh_frozen r8 0
        have f1 := sh_frozen r8 1
        have f3 := sh_frozen r8 2
        have HE := Lib.hid (And.intro (full_setCells r8 [.int .i64 (hv bs 0), .int .i64 (hv bs 1), .slice A m c] rfl) (And.intro (ownS_apart (by decide) [.int .i64 (hv bs 0), .int .i64 (hv bs 1), .slice A m c] 0 _ _ O8 r8) (And.intro (below_setCells (w.heap.size + 1) (by omega) [.int .i64 (hv bs 0), .int .i64 (hv bs 1), .slice A m c] 0 w _ L8) (M8.keep ((KeepsOthers.setCell _ ⟨w.heap.size + 1, 0, none⟩ (.int .i64 (hv bs 0))).trans ((KeepsOthers.setCell _ ⟨w.heap.size + 1, 1, none⟩ (.int .i64 (hv bs 1))).trans (KeepsOthers.setCell _ ⟨w.heap.size + 1, 2, none⟩ (.slice A m c))))))))
        clear L8 M8 m8 s8 O8 r8
        gi_wp2
        simp only [Exit.jump]
        refine leaves_marks (S := w.heap.size) [D] _ HE.out.2.2.2 ?_
        intro w2 hw2
        refine ⟨_, results_sh2 rfl _ _ (w.heap.size + 1) _ (0, 0) rfl (hw2.2 _ _ _ _ HE.out.1) rfl, ?_⟩
        rw [HTK3.out]
        refine ⟨_, rfl, ?_, HE.out.2.2.1.trans hw2.1⟩
        have := own_cellsAs hw2 HE.out.2.1
        simpa [hrl] using this

theorem sTake_any (a : Option Addr) (len cap : Nat) (bs : List Int) (hl : bs.length = len) (hlc : len ≤ cap) (hs : len ≤ 10000) (w : World) (h : Row .u8 w.heap.size w a bs) : Calls Try.prog 17 #[.slice a len cap] w (ShRet (tkS bs) w) :=
  callsIn_wide.1 (sTake_in 12 (by omega) a len cap bs hl hlc hs w h)

end Go.Proofs.Ythgoopdekllanaa
