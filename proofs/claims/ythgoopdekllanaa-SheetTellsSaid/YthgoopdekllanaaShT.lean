/- Blocks of rows, one by one: package sheet's blocks. -/
import Derived.Test.YthgoopdekllanaaShS
import Derived.Test.YthgoopdekllanaaRangeOkC
import Derived.Sort.QuietIn
import Derived.Stop.RegionWithIn
namespace Go.Proofs.Ythgoopdekllanaa
open Go.RowKit Go.Shelf
open SumM

attribute [local go_sem] Oper.semAt_some
attribute [local go_sem ↓] zero_blk
attribute [local go_sem ↓] nm_ldB nm_stB

theorem sh_frozen2 {w : World} {b : Nat} {cs : Array Value} {t : TypeId} (h : w.heap[b]? = some (.cells cs t (0, 0))) (i : Nat) : w.frozen? ⟨b, i, none⟩ = false := by simp [World.frozen?, h]
/-- A copy, as a step of a region that draws, inside a fence. -/
theorem stepIn_copy {F : Fence} {n : Nat} {P : Program} {ops : Array Oper} {o : Oper} {a : Act} {w w' : World} {K : Act → World → Prop} {Q : Exit → Act → World → Prop} {E : Prop} {d s : Operand} {dT sT : TypeId} {r : Value} (hg : o.guard = none) (hop : o.op = .call { callee := .builtin .copy, args := #[d, s], argTypes := #[dT, sT] })
    {dd : Option Tmp} (hd : o.dst = dd) (hrun : (Builtin.copy_ #[dT, sT] o.type #[a.eval d, a.eval s]).run P w = .ok r w') (hK : K (a.put dd r) w') : if Region.wanted o (yielded ops a.tmps) = true then Oper.wpIn F n P o a w K Q else E := by
  rw [if_pos (by simp [Region.wanted, hg])]
  unfold Oper.wpIn
  refine ⟨?_, ?_⟩
  · simp [Oper.about, hop, resolve, Target.leads, Sem.run_pure]
  · rw [Oper.semAt_plain F _ _ (by rw [hop]; intro c hc'; cases hc')]
    subst hd
    simp [execOp, hop, resolve, invoke, builtin, hrun, Result.andThen]
    exact hK

theorem SRow.takeS {α : Type} {C : α → List Value} {s B : Nat} {w : World} {a : Option Addr} {us : List α} (h : SRow C s B w a us) (i : Nat) : SRow C s B w a (us.take i) := fun hl => by
  obtain ⟨b, off, e, hb, hc⟩ := h (by rw [List.length_take] at hl; omega)
  refine ⟨b, off, e, hb, fun j hj r v hv => ?_⟩
  rw [List.getElem_take] at hv
  exact hc j (by rw [List.length_take] at hj; omega) r v hv
theorem SRow.dropS {α : Type} {C : α → List Value} {s B : Nat} {w : World} {b off : Nat} {us : List α} (h : SRow C s B w (some ⟨b, off, none⟩) us) (i : Nat) : SRow C s B w (some ⟨b, off + i * s, none⟩) (us.drop i) := fun hl => by
  obtain ⟨b', off', e, hb, hc⟩ := h (by rw [List.length_drop] at hl; omega)
  injection e with e
  injection e with e1 e2
  subst e1 e2
  refine ⟨_, _, rfl, hb, fun j hj r v hv => ?_⟩
  rw [List.getElem_drop] at hv
  have := hc (i + j) (by rw [List.length_drop] at hj; omega) r v hv
  rwa [show off + (i + j) * s + r = off + i * s + j * s + r by rw [Nat.add_mul]; omega] at this

set_option maxRecDepth 100000 in
theorem blocks_in (n : Nat) (A B : Option Addr) (len ca cb : Nat) (w : World) :
    CallsIn Fence.wide n Try.prog 56 #[.slice A len ca, .slice B len cb] w fun e w' => e = .returned (.func (.func 75) #[] #[.pointer (some ⟨w.heap.size, 0, none⟩), .pointer (some ⟨w.heap.size + 1, 0, none⟩)]) ∧ w' = (w.alloc (.cells #[.slice A len ca] 27)).alloc (.cells #[.slice B len cb] 27) := by
  refine callsIn_of_wp Try.func56 rfl trivial ?_ rfl
  simp only [Try.ntmps56, List.size_toArray, List.length_cons, List.length_nil, Nat.reduceAdd, Nat.reduceSub, Array.replicate_succ, Array.replicate_zero, List.push_toArray, List.append_toArray, List.nil_append, List.cons_append]
  gi_wp2
  go_ret
  exact ⟨rfl, rfl⟩

/-- What is handed out: block q of each. -/
def blkQ (rs : List SR) (q : Nat) : Nat → Int := padF ((rs.drop (16 * q)).take 16)
def encB (rs rs' : List SR) (q : Nat) : Array Value := #[blkV (blkQ rs q), blkV (blkQ rs' q)]
def sliceLen : Option Value → Nat
  | some (.slice _ n _) => n
  | _ => 0
theorem meas_lt {α : Type} (f : α → Nat) {o1 o2 a b : α} (h1 : o1 = a) (h2 : o2 = b) (h : f a < f b) : f o1 < f o2 := by rw [h1, h2]; exact h
/-- The boxes of the slices, rows behind. -/
structure BB (na nb n0 : Nat) (len : Nat) (us vs : List SR) (W : World) : Prop where
  a : ∃ A c, W.heap[na]? = some (.cells #[.slice A len c] 27 (0, 0)) ∧ SRow5 n0 W A us ∧ len ≤ c
  b : ∃ B c, W.heap[nb]? = some (.cells #[.slice B len c] 27 (0, 0)) ∧ SRow5 n0 W B vs ∧ len ≤ c
  la : us.length = len
  lb : vs.length = len

set_option maxRecDepth 100000 in
set_option maxHeartbeats 8000000 in
theorem blkIter_in (n : Nat) (hn : 1 ≤ n) (na nb n0 : Nat) (hab : na < nb) (hna : n0 ≤ na) (rs rs' : List SR) (hl : rs.length = rs'.length) (h40 : rs.length ≤ 4000000) (l : Nat) (J Jx : List Nat → World → Prop) (W : World) (hW : BB na nb n0 rs.length rs rs' W)
    (hN : ∀ pre V V', J pre V → Below V.heap.size V V' → J pre V') (hS : ∀ pre V b j u cs t r, J pre V → n0 ≤ b → V.heap[b]? = some (.cells cs t r) → J pre (V.setCell ⟨b, j, none⟩ u))
    (hY : ∀ pre x V, J pre V → (x = pre.length ∧ 16 * x < rs.length) → YieldAt Fence.wide (n - 1) Try.prog l (encB rs rs' x) V fun e V' => (e = .returned (.bool true) ∧ J (pre ++ [x]) V' ∧ KeepT n0 [27] V V') ∨ (e = .returned (.bool false) ∧ Jx (pre ++ [x]) V'))
    (h0 : J [] W) :
    CallsIn Fence.wide n Try.prog 75 (#[.func (.yield l) #[] #[]] ++ #[.pointer (some ⟨na, 0, none⟩), .pointer (some ⟨nb, 0, none⟩)]) W fun e W' => (∃ v, e = .returned v) ∧
      ((∃ xs, xs = List.range ((rs.length + 15) / 16) ∧ J xs W') ∨ (∃ pre, True ∧ Jx pre W')) := by
  refine callsIn_of_wp Try.func75 rfl trivial ?_ rfl
  simp only [Try.ntmps75, List.size_toArray, List.length_cons, List.length_nil, Nat.reduceAdd, Nat.reduceSub, Array.replicate_succ, Array.replicate_zero, List.push_toArray, List.append_toArray, List.nil_append, List.cons_append]
  have HN := Lib.hid (And.intro hN hS)
  have HY := Lib.hid hY
  have HH := Lib.hid (And.intro hl h40)
  clear hN hS hY hl h40
  gi_wp2
  refine wpIn_loop (fun a' wr => ∃ (q : Nat) (u4 u5 u6 u7 u8 u9 u10 u11 u12 u13 u14 u15 u16 u17 u18 u19 u20 u21 u22 u23 u24 u25 u26 : Value), 16 * q ≤ rs.length + 15 ∧ J (List.range q) wr ∧ BB na nb n0 (rs.length - 16 * q) (rs.drop (16 * q)) (rs'.drop (16 * q)) wr ∧ a' = { tmps := #[.func (.yield l) #[] #[], .pointer (some ⟨na, 0, none⟩), .pointer (some ⟨nb, 0, none⟩), undef, u4, u5, u6, u7, u8, u9, u10, u11, u12, u13, u14, u15, u16, u17, u18, u19, u20, u21, u22, u23, u24, u25, u26], defers := [] }) (fun _ wr => sliceLen (wr.cell? ⟨na, 0, none⟩)) ?start ?round
  case start => exact ⟨0, _, _, _, _, _, _, _, _, _, _, _, _, _, _, _, _, _, _, _, _, _, _, _, by omega, h0, by simpa using hW, rfl⟩
  case round =>
    rintro a' wr ⟨q, u4, u5, u6, u7, u8, u9, u10, u11, u12, u13, u14, u15, u16, u17, u18, u19, u20, u21, u22, u23, u24, u25, u26, hq, hJ, hB, rfl⟩
    obtain ⟨⟨A, c, hA, hRA, hlA⟩, ⟨B, c', hBb, hRB, hlB⟩, hla, hlb⟩ := hB
    have ca := cell_of_one hA
    have cb := cell_of_one hBb
    have HJ := Lib.hid hJ
    have HAB := Lib.hid (And.intro hA (And.intro hBb (And.intro hRA (And.intro hRB (And.intro hla hlb)))))
    clear hJ hA hBb hRA hRB hla hlb hW h0
    generalize hL : rs.length - 16 * q = L at *
    by_cases hp : 0 < L
    · have q1 : decide ((0 : Int) < (L : Int)) = true := decide_eq_true (by omega)
      gi_wp2_with fail
      obtain ⟨ba, oa, rfl, hba⟩ := sr_addr HAB.out.2.2.1 (by have := HAB.out; omega)
      obtain ⟨bb', ob, rfl, hbb⟩ := sr_addr HAB.out.2.2.2.1 (by have := HAB.out; omega)
      have MA := ((Below.refl wr.heap.size wr).alloc (Nat.le_refl _) (.cells (numL 80 zeroT).toArray 93)).alloc (by simp) (.cells (numL 80 zeroT).toArray 93)
      have hx0 := blkN (heap_alloc_new wr (.cells (numL 80 zeroT).toArray 93)) (.cells (numL 80 zeroT).toArray 93)
      have hy0 := newN (wr.alloc (.cells (numL 80 zeroT).toArray 93)) (.cells (numL 80 zeroT).toArray 93) (wr.heap.size + 1) (by simp)
      have hnw := (Array.getElem?_eq_some_iff.1 HAB.out.1).1
      have hnw2 := (Array.getElem?_eq_some_iff.1 HAB.out.2.1).1
      generalize hxx : wr.heap.size = x at *
      have HXX := Lib.hid hxx
      clear hxx
      generalize (wr.alloc (.cells (numL 80 zeroT).toArray 93)).alloc (.cells (numL 80 zeroT).toArray 93) = V2 at *
      obtain ⟨m, hm⟩ : ∃ m, Nat.min L 16 = m := ⟨_, rfl⟩
      have hm2 : m = min L 16 := hm.symm
      have hlu : ((rs.drop (16 * q)).take 16).length = m := by rw [List.length_take]; have := HAB.out; omega
      have hlv : ((rs'.drop (16 * q)).take 16).length = m := by rw [List.length_take]; have := HAB.out; omega
      have hu : ∀ j v, (flatS rowC ((rs.drop (16 * q)).take 16))[j]? = some v → V2.cell? ((⟨ba, oa, none⟩ : Addr).add j) = some v := by
        have hr := (SRow.takeS HAB.out.2.2.1 16).below (MA.mono (by omega))
        exact hr.cells rowC_len (by decide)
      have hv : ∀ j v, (flatS rowC ((rs'.drop (16 * q)).take 16))[j]? = some v → V2.cell? ((⟨bb', ob, none⟩ : Addr).add j) = some v := by
        have hr := (SRow.takeS HAB.out.2.2.2.1 16).below (MA.mono (by omega))
        exact hr.cells rowC_len (by decide)
      have cpa : (Builtin.copy_ #[27, 27] 3 #[.slice (some ⟨x, 0, none⟩) 16 16, .slice (some ⟨ba, oa, none⟩) L c]).run Try.prog V2.drew = .ok (.int .i64 (m : Nat)) (V2.drew.setCells x 0 (flatS rowC ((rs.drop (16 * q)).take 16))) := run_copy_s (P := Try.prog) V2.drew 27 27 3 63 5 m x 0 16 16 ⟨ba, oa, none⟩ L c (flatS rowC ((rs.drop (16 * q)).take 16)) Try.underlying27 (by kernel_rfl) hm (by rw [flatS_length rowC_len, hlu]) hu (fun j hj => (nb_there hx0 0 80 (by omega) j (by rw [flatS_length rowC_len, hlu] at hj; omega)).1) (fun j _ => nb_frozen hx0 _) (flatS_one rowC_one _)
      have ca2 : V2.cell? ⟨na, 0, none⟩ = some (.slice (some ⟨ba, oa, none⟩) L c) := (MA.cell (p := ⟨na, 0, none⟩) hnw).trans ca
      have cb2 : V2.cell? ⟨nb, 0, none⟩ = some (.slice (some ⟨bb', ob, none⟩) L c') := (MA.cell (p := ⟨nb, 0, none⟩) hnw2).trans cb
      have HMM := Lib.hid hm2
      have g16 : m ≤ 16 := by omega
      have g0 : 0 < m := by omega
      clear hm hm2
      have HX0 := Lib.hid hx0
      have HY0 := Lib.hid hy0
      have HUV := Lib.hid (And.intro hu hv)
      clear hx0 hy0 hu hv ca cb
      refine wpIn_region_any (by kernel_rfl) ?_
      try (change wpAnyIn _ _ _ _ _ _ _ _ _ (World.drew _))
      refine takeV (i := 0) (d := some 10) (v := .slice (some ⟨x, 0, none⟩) 16 16) rfl rfl rfl (by kernel_rfl) (by kernel_rfl) (by kernel_rfl) (fun _ _ _ h => h) (by kernel_rfl) (fun _ => by kernel_rfl) (fun _ => rfl) ?_
      refine wpAnyIn_ready (rs := [1]) (by kernel_rfl) (by simp) ?_
      refine AllReadyIn.cons rfl (fun K hK => ?_) AllReadyIn.nil
      go_simp
      refine hK _ _ ?_
      clear hK K
      refine wpAnyIn_ready (rs := [2]) (by kernel_rfl) (by simp) ?_
      refine AllReadyIn.cons rfl (fun K hK => ?_) AllReadyIn.nil
      refine stepIn_copy (by rfl) (by rfl) (dd := some 12) (by rfl) cpa ?_
      refine hK _ _ ?_
      clear hK K
      refine takeV (i := 3) (d := some 6) rfl rfl rfl (by kernel_rfl) (by kernel_rfl) (by kernel_rfl) (fun _ _ _ h => h) (by kernel_rfl) (by intro w; go_simp; try with_reducible rfl) (fun _ => rfl) ?_
      refine wpAnyIn_done (by kernel_rfl) ?_ _
      simp only [Exit.then]
      apply_assumption
      try simp only [Act.put, List.setIfInBounds_toArray, List.set_cons_zero, List.set_cons_succ]
      have hx1 : NB x 93 80 (blkQ rs q) (V2.drew.setCells x 0 (flatS rowC ((rs.drop (16 * q)).take 16))) := nb_pad (show NB x 93 80 zeroT V2.drew from HX0.out)
      have hy1 : NB (x + 1) 93 80 zeroT (V2.drew.setCells x 0 (flatS rowC ((rs.drop (16 * q)).take 16))) := (nb_other (by omega) _ _ _).trans HY0.out
      have M3 : Below x wr (V2.drew.setCells x 0 (flatS rowC ((rs.drop (16 * q)).take 16))) := below_setCells x (Nat.le_refl x) _ 0 wr _ (show Below x wr V2.drew from MA.drew)
      clear cpa ca2 cb2 HUV HX0 HY0 MA
      generalize V2.drew.setCells x 0 (flatS rowC ((rs.drop (16 * q)).take 16)) = V3 at *
      have hv3 : ∀ j v, (flatS rowC ((rs'.drop (16 * q)).take 16))[j]? = some v → V3.cell? ((⟨bb', ob, none⟩ : Addr).add j) = some v := by
        have hr := (SRow.takeS HAB.out.2.2.2.1 16).below (M3.mono (by omega))
        exact hr.cells rowC_len (by decide)
      have cpb : (Builtin.copy_ #[27, 27] 3 #[.slice (some ⟨x + 1, 0, none⟩) 16 16, .slice (some ⟨bb', ob, none⟩) L c']).run Try.prog V3.drew = .ok (.int .i64 (m : Nat)) (V3.drew.setCells (x + 1) 0 (flatS rowC ((rs'.drop (16 * q)).take 16))) := run_copy_s (P := Try.prog) V3.drew 27 27 3 63 5 m (x + 1) 0 16 16 ⟨bb', ob, none⟩ L c' (flatS rowC ((rs'.drop (16 * q)).take 16)) Try.underlying27 (by kernel_rfl) HMM.out.symm (by rw [flatS_length rowC_len, hlv]) hv3 (fun j hj => (nb_there hy1 0 80 (by omega) j (by rw [flatS_length rowC_len, hlv] at hj; omega)).1) (fun j _ => nb_frozen hy1 _) (flatS_one rowC_one _)
      have cb3 : V3.cell? ⟨nb, 0, none⟩ = some (.slice (some ⟨bb', ob, none⟩) L c') := (M3.cell (p := ⟨nb, 0, none⟩) hnw2).trans (cell_of_one HAB.out.2.1)
      have HX1 := Lib.hid (And.intro hx1 hy1)
      clear hx1 hy1 hv3
      gi_wp2_with fail
      refine wpIn_region_any (by kernel_rfl) ?_
      try (change wpAnyIn _ _ _ _ _ _ _ _ _ (World.drew _))
      refine takeV (i := 0) (d := some 13) (v := .slice (some ⟨x + 1, 0, none⟩) 16 16) rfl rfl rfl (by kernel_rfl) (by kernel_rfl) (by kernel_rfl) (fun _ _ _ h => h) (by kernel_rfl) (fun _ => by kernel_rfl) (fun _ => rfl) ?_
      refine wpAnyIn_ready (rs := [1]) (by kernel_rfl) (by simp) ?_
      refine AllReadyIn.cons rfl (fun K hK => ?_) AllReadyIn.nil
      go_simp
      refine hK _ _ ?_
      clear hK K
      refine wpAnyIn_ready (rs := [2]) (by kernel_rfl) (by simp) ?_
      refine AllReadyIn.cons rfl (fun K hK => ?_) AllReadyIn.nil
      refine stepIn_copy (by rfl) (by rfl) (dd := some 15) (by rfl) cpb ?_
      refine hK _ _ ?_
      clear hK K
      refine wpAnyIn_done (by kernel_rfl) ?_ _
      simp only [Exit.then]
      apply_assumption
      try simp only [Act.put, List.setIfInBounds_toArray, List.set_cons_zero, List.set_cons_succ]
      have hy2 : NB (x + 1) 93 80 (blkQ rs' q) (V3.drew.setCells (x + 1) 0 (flatS rowC ((rs'.drop (16 * q)).take 16))) := nb_pad (show NB (x + 1) 93 80 zeroT V3.drew from HX1.out.2)
      have hx2 : NB x 93 80 (blkQ rs q) (V3.drew.setCells (x + 1) 0 (flatS rowC ((rs'.drop (16 * q)).take 16))) := (nb_other (by omega) _ _ _).trans HX1.out.1
      have M4 : Below x wr (V3.drew.setCells (x + 1) 0 (flatS rowC ((rs'.drop (16 * q)).take 16))) := below_setCells (x + 1) (by omega) _ 0 wr _ (show Below x wr V3.drew from M3.drew)
      clear cpb cb3 HX1 M3
      generalize V3.drew.setCells (x + 1) 0 (flatS rowC ((rs'.drop (16 * q)).take 16)) = V4 at *
      have J4 := HN.out.1 _ _ _ HJ.out (show Below wr.heap.size wr V4 by rw [HXX.out]; exact M4)
      obtain ⟨fn, tmps, assign, body, hy, hr⟩ := HY.out (List.range q) q V4 J4 ⟨by simp, by omega⟩
      have y : (Instr.yield l #[blkV (blkQ rs q), blkV (blkQ rs' q)]).run Try.prog V4 = .ok (.round l fn tmps assign body) V4 := hy
      have HR := Lib.hid hr
      have hlx := ld_blk hx2
      have hly := ld_blk hy2
      have HM4 := Lib.hid M4
      clear hy hr J4 M4 hx2 hy2
      generalize blkQ rs q = T1 at *
      generalize blkQ rs' q = T2 at *
      gi_wp2_with fail
      refine HR.out.mono ?_
      clear HR y hlx hly
      rintro e V5 (⟨rfl, j5, k5⟩ | ⟨rfl, jx⟩)
      rotate_left
      · have HJx := Lib.hid jx
        clear jx
        gi_wp2
        refine bodyPost_ret (results_none rfl _ _ _) rfl ?_
        exact ⟨⟨_, rfl⟩, .inr ⟨_, trivial, HJx.out⟩⟩
      have b5a := k5.2 _ _ _ _ (by decide) ((HM4.out.block na hnw).trans HAB.out.1)
      have b5b := k5.2 _ _ _ _ (by decide) ((HM4.out.block nb hnw2).trans HAB.out.2.1)
      have c5a := cell_of_one b5a
      have c5b := cell_of_one b5b
      have f5a := sh_frozen2 b5a 0
      have f5b := sh_frozen2 b5b 0
      have HK5 := Lib.hid (And.intro j5 (And.intro b5a (And.intro b5b ((HM4.out.mono (by omega)).trans k5.1))))
      clear j5 k5 b5a b5b
      have gL : m ≤ L := by have := HMM.out; omega
      have gLi : (m : Int) ≤ (L : Int) := by omega
      have gc : (m : Int) ≤ (c : Int) := by omega
      have gc' : (m : Int) ≤ (c' : Int) := by omega
      have gcn : m ≤ c := by omega
      have gcn' : m ≤ c' := by omega
      have hna2 : na ≠ nb := by omega
      have hnb2 : nb ≠ na := by omega
      have hd : ∀ us : List SR, us.length = rs.length → us.drop (16 * (q + 1)) = (us.drop (16 * q)).drop m := by
        intro us hus
        rw [List.drop_drop]
        by_cases h16 : m = 16
        · rw [h16, Nat.mul_add]
        · rw [List.drop_eq_nil_of_le (by have := HMM.out; omega), List.drop_eq_nil_of_le (by have := HMM.out; omega)]
      have HBN := Lib.hid (show ∀ (A2 B2 : Option Addr) (e e' : Nat) (U : World), Below n0 V5 U → U.heap[na]? = some (.cells #[.slice A2 (L - m) e] 27 (0, 0)) → U.heap[nb]? = some (.cells #[.slice B2 (L - m) e'] 27 (0, 0)) → L - m ≤ e → L - m ≤ e' → (0 < L - m → A2 = some ⟨ba, oa + m * 5, none⟩ ∧ B2 = some ⟨bb', ob + m * 5, none⟩) → BB na nb n0 (rs.length - 16 * (q + 1)) (rs.drop (16 * (q + 1))) (rs'.drop (16 * (q + 1))) U from by
        intro A2 B2 e e' U hU ha hb he he' hAB2
        have hLm : rs.length - 16 * (q + 1) = L - m := by have := HMM.out; omega
        rw [hLm, hd rs rfl, hd rs' HH.out.1.symm]
        have hsa : SRow5 n0 U A2 ((rs.drop (16 * q)).drop m) := by
          by_cases hz : 0 < L - m
          · rw [(hAB2 hz).1]
            exact (SRow.dropS (HAB.out.2.2.1.below HK5.out.2.2.2) m).below hU
          · rw [show (rs.drop (16 * q)).drop m = [] from List.drop_eq_nil_of_le (by have := HAB.out; omega)]
            exact SRow.nil _ _ _ _ _
        have hsb : SRow5 n0 U B2 ((rs'.drop (16 * q)).drop m) := by
          by_cases hz : 0 < L - m
          · rw [(hAB2 hz).2]
            exact (SRow.dropS (HAB.out.2.2.2.1.below HK5.out.2.2.2) m).below hU
          · rw [show (rs'.drop (16 * q)).drop m = [] from List.drop_eq_nil_of_le (by have := HAB.out; omega)]
            exact SRow.nil _ _ _ _ _
        exact ⟨⟨A2, e, ha, hsa, he⟩, ⟨B2, e', hb, hsb, he'⟩, by rw [List.length_drop]; have := HAB.out; omega, by rw [List.length_drop]; have := HAB.out; omega⟩)
      have HFN := Lib.hid (show ∀ (v1 v2 : Value), J (List.range (q + 1)) ((V5.drew.setCell ⟨na, 0, none⟩ v1).setCell ⟨nb, 0, none⟩ v2) ∧ Below n0 V5 ((V5.drew.setCell ⟨na, 0, none⟩ v1).setCell ⟨nb, 0, none⟩ v2) ∧ ((V5.drew.setCell ⟨na, 0, none⟩ v1).setCell ⟨nb, 0, none⟩ v2).heap[na]? = some (.cells #[v1] 27 (0, 0)) ∧ ((V5.drew.setCell ⟨na, 0, none⟩ v1).setCell ⟨nb, 0, none⟩ v2).heap[nb]? = some (.cells #[v2] 27 (0, 0)) from by
        intro v1 v2
        have jd := HN.out.1 _ _ _ HK5.out.1 (show Below V5.heap.size V5 V5.drew from (Below.refl _ _).drew)
        have e1 : (V5.drew.setCell ⟨na, 0, none⟩ v1).heap[na]? = some (.cells #[v1] 27 (0, 0)) := by
          have := heap_setCell_same V5.drew na 0 _ _ v1 HK5.out.2.1
          simpa using this
        have e2 : (V5.drew.setCell ⟨na, 0, none⟩ v1).heap[nb]? = _ := (Below.heap_setCell _ _ _ _ (by simpa using hnb2)).trans HK5.out.2.2.1
        refine ⟨?_, (((Below.refl n0 V5).drew.setCell (p := ⟨na, 0, none⟩) hna _).setCell (p := ⟨nb, 0, none⟩) (by simp; omega) _), (Below.heap_setCell _ _ _ _ (by simpa using hna2)).trans e1, ?_⟩
        · rw [List.range_succ]
          exact HN.out.2 _ _ _ _ _ _ _ _ (HN.out.2 _ _ _ _ _ _ _ _ jd hna HK5.out.2.1) (by omega) e2
        · have := heap_setCell_same _ nb 0 _ _ v2 e2
          simpa using this)
      clear hd
      by_cases h1 : c = m
      · by_cases h2 : c' = m
        · gi_wp2_with fail
          gi_region_with (fail)
          all_goals (
            simp only [Exit.inBlock]
            refine ⟨⟨q + 1, _, _, _, _, _, _, _, _, _, _, _, _, _, _, _, _, _, _, _, _, _, _, _, by have := HMM.out; omega, (HFN.out _ _).1, HBN.out _ _ _ _ _ (HFN.out _ _).2.1 (HFN.out _ _).2.2.1 (HFN.out _ _).2.2.2 (by omega) (by omega) (fun hz => ?_), rfl⟩, ?_⟩
            · first | (exfalso; omega) | exact ⟨rfl, rfl⟩
            · exact meas_lt sliceLen (cell_of_one (HFN.out _ _).2.2.1) (cell_of_one HAB.out.1) (show L - m < L by omega))
        · gi_wp2_with fail
          gi_region_with (fail)
          all_goals (
            simp only [Exit.inBlock]
            refine ⟨⟨q + 1, _, _, _, _, _, _, _, _, _, _, _, _, _, _, _, _, _, _, _, _, _, _, _, by have := HMM.out; omega, (HFN.out _ _).1, HBN.out _ _ _ _ _ (HFN.out _ _).2.1 (HFN.out _ _).2.2.1 (HFN.out _ _).2.2.2 (by omega) (by omega) (fun hz => ?_), rfl⟩, ?_⟩
            · first | (exfalso; omega) | exact ⟨rfl, rfl⟩
            · exact meas_lt sliceLen (cell_of_one (HFN.out _ _).2.2.1) (cell_of_one HAB.out.1) (show L - m < L by omega))
      · by_cases h2 : c' = m
        · gi_wp2_with fail
          gi_region_with (fail)
          all_goals (
            simp only [Exit.inBlock]
            refine ⟨⟨q + 1, _, _, _, _, _, _, _, _, _, _, _, _, _, _, _, _, _, _, _, _, _, _, _, by have := HMM.out; omega, (HFN.out _ _).1, HBN.out _ _ _ _ _ (HFN.out _ _).2.1 (HFN.out _ _).2.2.1 (HFN.out _ _).2.2.2 (by omega) (by omega) (fun hz => ?_), rfl⟩, ?_⟩
            · first | (exfalso; omega) | exact ⟨rfl, rfl⟩
            · exact meas_lt sliceLen (cell_of_one (HFN.out _ _).2.2.1) (cell_of_one HAB.out.1) (show L - m < L by omega))
        · gi_wp2_with fail
          gi_region_with (fail)
          all_goals (
            simp only [Exit.inBlock]
            refine ⟨⟨q + 1, _, _, _, _, _, _, _, _, _, _, _, _, _, _, _, _, _, _, _, _, _, _, _, by have := HMM.out; omega, (HFN.out _ _).1, HBN.out _ _ _ _ _ (HFN.out _ _).2.1 (HFN.out _ _).2.2.1 (HFN.out _ _).2.2.2 (by omega) (by omega) (fun hz => ?_), rfl⟩, ?_⟩
            · first | (exfalso; omega) | exact ⟨rfl, rfl⟩
            · exact meas_lt sliceLen (cell_of_one (HFN.out _ _).2.2.1) (cell_of_one HAB.out.1) (show L - m < L by omega))
    · have hL0 : L = 0 := by omega
      subst hL0
      have hqq : q = (rs.length + 15) / 16 := by omega
      have HQ := Lib.hid hqq
      clear hqq
      gi_wp2
      go_end0; exact ⟨⟨_, rfl⟩, .inl ⟨_, rfl, by rw [← HQ.out]; exact HJ.out⟩⟩
theorem BB.below {na nb n0 len : Nat} {us vs : List SR} {w W : World} (h : BB na nb n0 len us vs w) (m : Below w.heap.size w W) (hn : n0 ≤ w.heap.size) : BB na nb n0 len us vs W := by
  obtain ⟨⟨A, c, a1, a2, a3⟩, ⟨B, c', b1, b2, b3⟩, la, lb⟩ := h
  exact ⟨⟨A, c, (m.block _ (Array.getElem?_eq_some_iff.1 a1).1).trans a1, a2.below (m.mono hn), a3⟩, ⟨B, c', (m.block _ (Array.getElem?_eq_some_iff.1 b1).1).trans b1, b2.below (m.mono hn), b3⟩, la, lb⟩
theorem blocks_ok (n : Nat) (hn : 1 ≤ n) (na nb n0 : Nat) (hab : na < nb) (hna : n0 ≤ na) (rs rs' : List SR) (hl : rs.length = rs'.length) (h40 : rs.length ≤ 4000000) (w : World) (hnw : n0 ≤ w.heap.size) (hW : BB na nb n0 rs.length rs rs' w) :
    SeqOkC Fence.wide n Try.prog 75 #[.pointer (some ⟨na, 0, none⟩), .pointer (some ⟨nb, 0, none⟩)] (encB rs rs') (fun pre x _ => x = pre.length ∧ 16 * x < rs.length) (KeepT n0 [27]) (fun xs => xs = List.range ((rs.length + 15) / 16)) (fun _ => True) n0 w :=
  fun l J Jx W m hN hS hY h0 => blkIter_in n hn na nb n0 hab hna rs rs' hl h40 l J Jx W (hW.below m hnw) hN hS hY h0
end Go.Proofs.Ythgoopdekllanaa
