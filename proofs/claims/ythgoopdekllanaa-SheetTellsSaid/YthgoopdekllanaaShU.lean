/- Are two sheets the same: package sheet's Same, walked. -/
import Derived.Test.YthgoopdekllanaaShT
import Derived.Test.YthgoopdekllanaaShN
namespace Go.Proofs.Ythgoopdekllanaa
open Go.RowKit Go.Shelf
open SumM

attribute [local go_sem] Oper.semAt_some
attribute [local go_sem ↓] zero_blk
attribute [local go_sem ↓] nm_ldB nm_stB

theorem grd_blk : Try.prog.eqGuardType Try.prog.depth 93 = false := by kernel_rfl
attribute [local go_sem] grd_blk
theorem below_put {S l : Nat} {w W : World} (h : Below S w W) (o' : Obj) (hl : S ≤ l) : Below S w (W.putObj l o') := h.trans ⟨rfl, rfl, rfl, by simp [World.putObj], fun k hk => World.putObj_heap_other (by omega)⟩
/-- All blocks are the same: the rows are. -/
theorem blks_same : ∀ (N : Nat) (us vs : List SR), us.length = vs.length → us.length ≤ 16 * N → (∀ q, q < N → eqN 80 (blkQ us q) (blkQ vs q) = true) → us = vs := by
  intro N
  induction N with
  | zero => intro us vs hl h _; rw [List.length_eq_zero_iff.1 (by omega : us.length = 0), List.length_eq_zero_iff.1 (by omega : vs.length = 0)]
  | succ N ih =>
    intro us vs hl h hq
    have h0 : us.take 16 = vs.take 16 := by
      refine pad_inj (by rw [List.length_take, List.length_take, hl]) (by rw [List.length_take]; omega) fun o ho => ?_
      have := eqN_iff.1 (hq 0 (by omega)) o ho
      simpa [blkQ] using this
    have h1 : us.drop 16 = vs.drop 16 := by
      refine ih _ _ (by rw [List.length_drop, List.length_drop, hl]) (by rw [List.length_drop]; omega) fun q hqN => ?_
      have := hq (q + 1) (by omega)
      unfold blkQ at this ⊢
      rw [List.drop_drop, List.drop_drop, show 16 + 16 * q = 16 * (q + 1) by omega]
      exact this
    rw [← List.take_append_drop 16 us, ← List.take_append_drop 16 vs, h0, h1]

set_option maxRecDepth 100000 in
set_option maxHeartbeats 8000000 in
theorem sSame_in (n : Nat) (hn : 4 ≤ n) (ba tv : Int) (sa : Option Addr) (sn sc : Nat) (ba' tv' : Int) (sa' : Option Addr) (sn' sc' : Nat) (rs rs' : List SR) (hl : rs.length = sn) (hs : sn ≤ 4000000) (hl' : rs'.length = sn') (hc : sn ≤ sc) (hc' : sn' ≤ sc') (w : World) (h : SRow5 w.heap.size w sa rs) (h' : SRow5 w.heap.size w sa' rs') :
    CallsIn Fence.wide n Try.prog 23 #[.agg #[.int .i64 ba, .int .i64 tv, .slice sa sn sc], .agg #[.int .i64 ba', .int .i64 tv', .slice sa' sn' sc']] w fun e w' => e = .returned (.bool (smS ba tv rs ba' tv' rs')) ∧ Below w.heap.size w w' := by
  have h1n : 1 ≤ n := by omega
  refine callsIn_of_wp_marks Try.func23 rfl trivial ?_ rfl
  simp only [Try.ntmps23, List.size_toArray, List.length_cons, List.length_nil, Nat.reduceAdd, Nat.reduceSub, Array.replicate_succ, Array.replicate_zero, List.push_toArray, List.append_toArray, List.nil_append, List.cons_append]
  have bS := blkN (heap_alloc_new w (.cells #[.int .i64 ba, .int .i64 tv, .slice sa sn sc] 29)) (.cells #[.int .i64 ba', .int .i64 tv', .slice sa' sn' sc'] 29)
  have bS' := newN (w.alloc (.cells #[.int .i64 ba, .int .i64 tv, .slice sa sn sc] 29)) (.cells #[.int .i64 ba', .int .i64 tv', .slice sa' sn' sc'] 29) (w.heap.size + 1) (by simp)
  have L0 := ((Below.refl w.heap.size w).alloc (Nat.le_refl _) (.cells #[.int .i64 ba, .int .i64 tv, .slice sa sn sc] 29)).alloc (by simp) (.cells #[.int .i64 ba', .int .i64 tv', .slice sa' sn' sc'] 29)
  obtain ⟨q0, q1, q2⟩ := sh_cells _ _ _ _ _ bS
  obtain ⟨q0', q1', q2'⟩ := sh_cells _ _ _ _ _ bS'
  obtain ⟨e1, h1⟩ : ∃ e1, (ba == ba') = e1 := ⟨_, rfl⟩
  obtain ⟨e2, h2⟩ : ∃ e2, (tv == tv') = e2 := ⟨_, rfl⟩
  obtain ⟨e3, h3⟩ : ∃ e3, ((sn : Int) == (sn' : Int)) = e3 := ⟨_, rfl⟩
  have g1 : (ba != ba') = !e1 := by rw [← h1]; rfl
  have g2 : (tv != tv') = !e2 := by rw [← h2]; rfl
  have g3 : ((sn : Int) != (sn' : Int)) = !e3 := by rw [← h3]; rfl
  have HE := Lib.hid (show smS ba tv rs ba' tv' rs' = (e1 && e2 && e3 && decide (rs = rs')) by
    refine Bool.iffEq ?_
    have : rs = rs' → sn = sn' := fun e => by rw [← hl, ← hl', e]
    simp only [smS, decide_eq_true_eq, Bool.and_eq_true, ← h1, ← h2, ← h3, beq_iff_eq]
    constructor
    · rintro ⟨a, b, c⟩
      exact ⟨⟨⟨a, b⟩, by rw [this c]⟩, c⟩
    · rintro ⟨⟨⟨a, b⟩, _⟩, c⟩
      exact ⟨a, b, c⟩)
  have HL := Lib.hid (And.intro hl (And.intro hs (And.intro hl' (And.intro hc hc'))))
  have HR := Lib.hid (And.intro h h')
  clear hl hs hl' hc hc' h h' h1 h2 h3 bS bS'
  gi_wp2_with fail
  rw [wpIn_wide]
  refine wp_scope_jumps 0 (fun a' w' => Below w.heap.size w w' ∧ smS ba tv rs ba' tv' rs' = false ∧ ∃ (Ds : List Nat), Marks w.heap.size Ds w' ∧ ∃ (u0 u1 u2 u3 u4 u5 u6 u7 u8 u9 u10 u11 u12 u13 u14 u15 u16 u17 u18 u19 u20 u21 u22 u23 u24 u25 u26 u27 u28 u29 u30 u31 u32 u33 u34 u35 u36 u37 : Value), a' = { tmps := #[u0, u1, u2, u3, u4, u5, u6, u7, u8, u9, u10, u11, u12, u13, u14, u15, u16, u17, u18, u19, u20, u21, u22, u23, u24, u25, u26, u27, u28, u29, u30, u31, u32, u33, u34, u35, u36, u37], defers := Ds.map mkD }) (fun _ _ => 0) rfl ?first ?pass
  case pass =>
    rintro a' w' ⟨LL, hf, Ds, hm, u0, u1, u2, u3, u4, u5, u6, u7, u8, u9, u10, u11, u12, u13, u14, u15, u16, u17, u18, u19, u20, u21, u22, u23, u24, u25, u26, u27, u28, u29, u30, u31, u32, u33, u34, u35, u36, u37, rfl⟩
    have HX := Lib.hid (And.intro LL (And.intro hf hm))
    clear LL hf hm L0 q0 q1 q2 q0' q1' q2' g1 g2 g3
    go_wp2
    simp only [Exit.jump]
    refine leaves_marks (S := w.heap.size) Ds _ HX.out.2.2 ?_
    intro w2 hw2
    exact ⟨_, results_tmp rfl _ _ _, by rw [HX.out.2.1]; rfl, HX.out.1.trans hw2.1⟩
  case first =>
    rw [← wpIn_wide (n := n)]
    have L0 := Lib.hid L0
    generalize hW0 : ((w.alloc (.cells #[.int .i64 ba, .int .i64 tv, .slice sa sn sc] 29)).alloc (.cells #[.int .i64 ba', .int .i64 tv', .slice sa' sn' sc'] 29)) = W0 at *
    have hS0 : W0.heap.size = w.heap.size + 2 := by rw [← hW0]; simp
    clear hW0
    cases e1
    · gi_wp2
      refine wpIn_goto ?_
      simp only [Exit.then]
      exact ⟨rfl, L0.out, by rw [HE.out]; rfl, [], ⟨fun D h => absurd h (by simp), by simp⟩, _, _, _, _, _, _, _, _, _, _, _, _, _, _, _, _, _, _, _, _, _, _, _, _, _, _, _, _, _, _, _, _, _, _, _, _, _, _, rfl⟩
    cases e2
    · gi_wp2
      refine wpIn_goto ?_
      simp only [Exit.then]
      exact ⟨rfl, L0.out, by rw [HE.out]; rfl, [], ⟨fun D h => absurd h (by simp), by simp⟩, _, _, _, _, _, _, _, _, _, _, _, _, _, _, _, _, _, _, _, _, _, _, _, _, _, _, _, _, _, _, _, _, _, _, _, _, _, _, rfl⟩
    cases e3
    · gi_wp2
      refine wpIn_goto ?_
      simp only [Exit.then]
      exact ⟨rfl, L0.out, by rw [HE.out]; rfl, [], ⟨fun D h => absurd h (by simp), by simp⟩, _, _, _, _, _, _, _, _, _, _, _, _, _, _, _, _, _, _, _, _, _, _, _, _, _, _, _, _, _, _, _, _, _, _, _, _, _, _, rfl⟩
    have hE : smS ba tv rs ba' tv' rs' = decide (rs = rs') := by rw [HE.out]; simp
    have HE := Lib.hid hE
    have hn' : sn = sn' := by simp at g3; omega
    subst hn'
    have g3 : ((sn : Int) != (sn : Int)) = false := by simp
    clear hE
    gi_wp2_with fail
    refine ⟨trivial, (blocks_in (n - 1) sa sa' sn sc sc' W0).mono ?_⟩
    rintro e W1 ⟨rfl, rfl⟩
    have z1 := blkN (heap_alloc_new W0 (.cells #[.slice sa sn sc] 27)) (.cells #[.slice sa' sn sc'] 27)
    have z2 := newN (W0.alloc (.cells #[.slice sa sn sc] 27)) (.cells #[.slice sa' sn sc'] 27) (W0.heap.size + 1) (by simp)
    have M1 := ((Below.refl W0.heap.size W0).alloc (Nat.le_refl _) (.cells #[.slice sa sn sc] 27)).alloc (by simp) (.cells #[.slice sa' sn sc'] 27)
    have L1 := L0.out.trans (M1.mono (show w.heap.size ≤ W0.heap.size by omega))
    have B1 : BB W0.heap.size (W0.heap.size + 1) w.heap.size rs.length rs rs' ((W0.alloc (.cells #[.slice sa sn sc] 27)).alloc (.cells #[.slice sa' sn sc'] 27)) :=
      ⟨⟨sa, sc, by rw [HL.out.1]; exact z1, HR.out.1.below L1, by have := HL.out; omega⟩, ⟨sa', sc', by rw [HL.out.1]; exact z2, HR.out.2.below L1, by have := HL.out; omega⟩, rfl, by have := HL.out; omega⟩
    have hs1 : w.heap.size ≤ ((W0.alloc (.cells #[.slice sa sn sc] 27)).alloc (.cells #[.slice sa' sn sc'] 27)).heap.size := L1.size
    have HZ := Lib.hid hS0
    clear z1 z2 M1 hS0 q0 q1 q2 q0' q1' q2' g1 g2 g3
    have hnb : w.heap.size ≤ W0.heap.size := by have := HZ.out; omega
    clear HZ
    generalize W0.heap.size = nb at *
    generalize (W0.alloc (.cells #[.slice sa sn sc] 27)).alloc (.cells #[.slice sa' sn sc'] 27) = W1 at *
    have HB1 := Lib.hid B1
    have HL1 := Lib.hid L1
    clear B1 L1 L0
    gi_wp2_with fail
    refine range_okC rfl h1n (gf := 75) (lb := #[.pointer (some ⟨nb, 0, none⟩), .pointer (some ⟨nb + 1, 0, none⟩)]) rfl trivial (enters_of Try.func75 (by kernel_rfl) rfl)
      (encs := encB rs rs') (Ok := fun pre x _ => x = pre.length ∧ 16 * x < rs.length) (Kp := KeepT w.heap.size [27]) (S := fun xs => xs = List.range ((rs.length + 15) / 16)) (Sp := fun _ => True) (n0 := w.heap.size)
      (blocks_ok (n - 1) (by omega) nb (nb + 1) w.heap.size (by omega) hnb rs rs' (by have := HL.out; omega) (by have := HL.out; omega) W1 hs1 HB1.out)
      (fun _ _ _ _ _ _ h _ _ _ => h) keepT_t (fun W l o o' h1 h2 h3 h4 => keepT_b hs1 W l o o' h1 h2 h3 h4) (fun _ => rfl)
      (fun pre W => Below w.heap.size w W ∧ ∀ q ∈ pre, eqN 80 (blkQ rs q) (blkQ rs' q) = true) (fun c _ W => c = .goto 0 ∧ Below w.heap.size w W ∧ smS ba tv rs ba' tv' rs' = false)
      ⟨fun _ _ _ h k => ⟨h.1.trans (k.mono h.1.size), h.2⟩, fun _ _ l o o' h hl ho hc => ⟨below_put h.1 o' (by omega), h.2⟩⟩ (fun _ => ⟨fun _ _ _ h k => ⟨h.1, h.2.1.trans (k.mono h.2.1.size), h.2.2⟩, fun _ _ l o o' h hl ho hc => ⟨h.1, below_put h.2.1 o' (by omega), h.2.2⟩⟩)
      (fun pre V b j u cs t r h hb _ => ⟨h.1.setCell (p := ⟨b, j, none⟩) hb u, h.2⟩) ⟨HL1.out, fun q h => absurd h (by simp)⟩
      (fun q => .cells (numL 80 (blkQ rs q)).toArray 93) (fun q => .cells (numL 80 (blkQ rs' q)).toArray 93) (fun W x hW => keepT_t (keepT_new _ (by omega)) (keepT_new _ (by simp; omega))) (fun _ _ _ h => h)
      (fun q b => { tmps := #[.agg #[.int .i64 ba, .int .i64 tv, .slice sa sn sc], .agg #[.int .i64 ba', .int .i64 tv', .slice sa' sn sc'], .pointer (some ⟨w.heap.size, 0, none⟩), .pointer (some ⟨w.heap.size + 1, 0, none⟩), .bool false, .pointer (some ⟨b, 0, none⟩), .pointer (some ⟨b + 1, 0, none⟩), .pointer (some ⟨w.heap.size, 0, none⟩), .int .i64 ba, .pointer (some ⟨w.heap.size + 1, 0, none⟩), .int .i64 ba', .bool false, .bool false, .pointer (some ⟨w.heap.size, 1, none⟩), .int .i64 tv, .pointer (some ⟨w.heap.size + 1, 1, none⟩), .int .i64 tv', .bool false, .bool false, .bool false, .pointer (some ⟨w.heap.size, 2, none⟩), .slice sa sn sc, .int .i64 (sn : Nat), .pointer (some ⟨w.heap.size + 1, 2, none⟩), .slice sa' sn sc', .int .i64 (sn : Nat), .bool false, .bool false, .pointer (some ⟨w.heap.size, 2, none⟩), .slice sa sn sc, .pointer (some ⟨w.heap.size + 1, 2, none⟩), .slice sa' sn sc', .func (.func 75) #[] #[.pointer (some ⟨nb, 0, none⟩), .pointer (some ⟨nb + 1, 0, none⟩)], blkV (blkQ rs q), blkV (blkQ rs' q), undef, undef, undef], defers := [] }) ?assign ?body ?done ?stop
    case stop =>
      rintro D c pre W hD _ ⟨rfl, hb, hf⟩ hK
      refine wpIn_goto ?_
      simp only [Exit.inBlock, Exit.then]
      exact ⟨rfl, hb, hf, [D], Marks.one hK (by omega), _, _, _, _, _, _, _, _, _, _, _, _, _, _, _, _, _, _, _, _, _, _, _, _, _, _, _, _, _, _, _, _, _, _, _, _, _, _, rfl⟩
    case assign =>
      intro l x W K hK
      have s1 := st_blk (heap_alloc_new W (.cells (numL 80 zeroT).toArray 93)) (blkQ rs x)
      have f1 := new_full (w := W) (t := 93) (show (numL 80 zeroT).length = (numL 80 (blkQ rs x)).length by rw [numL_len, numL_len])
      rw [f1] at s1
      have s2 := st_blk (heap_alloc_new (W.alloc (.cells (numL 80 (blkQ rs x)).toArray 93)) (.cells (numL 80 zeroT).toArray 93)) (blkQ rs' x)
      have f2 := new_full (w := W.alloc (.cells (numL 80 (blkQ rs x)).toArray 93)) (t := 93) (show (numL 80 zeroT).length = (numL 80 (blkQ rs' x)).length by rw [numL_len, numL_len])
      rw [f2, World.size_alloc] at s2
      clear f1 f2
      simp only [encB] at hK ⊢
      generalize blkQ rs x = T1 at *
      generalize blkQ rs' x = T2 at *
      gi_wp2_with fail
      exact hK
    case body =>
      rintro l pre q W b ⟨hL, hP⟩ ⟨hq, hq16⟩ hb1 hb2 hbx hby
      have l1 := ld_blk hbx
      have l2 := ld_blk hby
      have hne : (Op.equalIn 10000 93 (blkV (blkQ rs q)) (blkV (blkQ rs' q))).run Try.prog W = _ := run_eqBk 9996 (blkQ rs q) (blkQ rs' q) W
      obtain ⟨g, hg⟩ : ∃ g, eqN 80 (blkQ rs q) (blkQ rs' q) = g := ⟨_, rfl⟩
      rw [hg] at hne
      have HPL := Lib.hid (And.intro hL hP)
      have HG := Lib.hid hg
      clear hL hP hg hbx hby
      generalize hT1 : blkQ rs q = T1 at *
      generalize hT2 : blkQ rs' q = T2 at *
      have HT := Lib.hid (And.intro hT1 hT2)
      clear hT1 hT2
      cases g
      · have HS := Lib.hid (show smS ba tv rs ba' tv' rs' = false by
          rw [HE.out]
          refine decide_eq_false fun e => ?_
          have := HG.out
          rw [← HT.out.1, ← HT.out.2, e] at this
          rw [eqN_iff.2 (fun _ _ => rfl)] at this
          cases this)
        gi_wp2_with fail
        refine wpIn_goto ?_
        simp only [Exit.inBlock]
        exact ⟨(KeepsOthers.refl _).from _, rfl, HPL.out.1, HS.out⟩
      · have HS := Lib.hid (show ∀ p ∈ pre ++ [q], eqN 80 (blkQ rs p) (blkQ rs' p) = true by
          intro p hp
          rcases List.mem_append.1 hp with h | h
          · exact HPL.out.2 p h
          · rw [List.mem_singleton.1 h, HT.out.1, HT.out.2]
            exact HG.out)
        gi_wp2_with fail
        exact ⟨(KeepsOthers.refl _).from _, ⟨Below.refl _ _, fun _ _ _ _ _ h => h⟩, HPL.out.1, HS.out⟩
    case done =>
      rintro D ys W hD rfl ⟨hL, hP⟩ hK
      have HX := Lib.hid (And.intro hL (And.intro hP (And.intro hK hD)))
      clear hL hP hK hD
      gi_wp2
      simp only [Exit.jump]
      have HS := Lib.hid (show smS ba tv rs ba' tv' rs' = true by
        rw [HE.out]
        refine decide_eq_true (blks_same ((rs.length + 15) / 16) rs rs' (by have := HL.out; omega) (by omega) fun q hq => HX.out.2.1 q (List.mem_range.2 hq)))
      refine leaves_marks (S := w.heap.size) [D] _ (Marks.one HX.out.2.2.1 (by have := HX.out; omega)) ?_
      intro w2 hw2
      exact ⟨_, results_tmp rfl _ _ _, by rw [HS.out]; rfl, HX.out.1.trans hw2.1⟩
theorem sSame_any (ba tv : Int) (sa : Option Addr) (sn sc : Nat) (ba' tv' : Int) (sa' : Option Addr) (sn' sc' : Nat) (rs rs' : List SR) (hl : rs.length = sn) (hs : sn ≤ 4000000) (hl' : rs'.length = sn') (hc : sn ≤ sc) (hc' : sn' ≤ sc') (w : World) (h : SRow5 w.heap.size w sa rs) (h' : SRow5 w.heap.size w sa' rs') :
    Calls Try.prog 23 #[.agg #[.int .i64 ba, .int .i64 tv, .slice sa sn sc], .agg #[.int .i64 ba', .int .i64 tv', .slice sa' sn' sc']] w fun e w' => e = .returned (.bool (smS ba tv rs ba' tv' rs')) ∧ Below w.heap.size w w' :=
  callsIn_wide.1 (sSame_in 4 (by omega) _ _ _ _ _ _ _ _ _ _ rs rs' hl hs hl' hc hc' w h h')
end Go.Proofs.Ythgoopdekllanaa
