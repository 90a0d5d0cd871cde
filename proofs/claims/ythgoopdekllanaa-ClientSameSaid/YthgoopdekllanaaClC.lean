/- A client's sheet laid over its table: package client's newer and with. -/
import Derived.Test.YthgoopdekllanaaClB
import Derived.Test.YthgoopdekllanaaSrB
namespace Go.Proofs.Ythgoopdekllanaa
open Go.RowKit Go.Shelf
open SumM

attribute [local go_sem] Oper.semAt_some guard_undef
attribute [local go_sem ↓] nm_ldT nm_ldA nm_stT nm_ldC nm_stC nm_buT nm_buC
attribute [local go_sem ↓] zero_tab zero_cli

theorem rowT_same (t : Nat → Int) (i : Nat) (u : Ent) : rowT (setR t i u) i = u := by
  unfold rowT setR upd
  simp
theorem rowT_other (t : Nat → Int) {i b : Nat} (u : Ent) (h : b ≠ i) : rowT (setR t i u) b = rowT t b := by
  unfold rowT setR upd
  simp only [Prod.mk.injEq]
  refine ⟨?_, ?_, ?_, ?_⟩ <;> (rw [if_neg (by omega), if_neg (by omega), if_neg (by omega), if_neg (by omega)])

/-- Is a sheet's row newer than the table's? -/
def nwR (T : Nat → Int) (r : SR) : Bool := decide ((rowT T r.1.toNat).2.2.1 < r.2.2.2.1)
/-- The rows of a sheet that are newer than the table's. -/
def nwL (T : Nat → Int) (rs : List SR) : List SR := rs.filter (nwR T)
/-- Rows laid over a table. -/
def layS (T : Nat → Int) (rs : List SR) : Nat → Int := rs.foldl (fun t r => setR t r.1.toNat r.2) T
/-- Those that are newer, one by one. -/
def ly (T : Nat → Int) (rs : List SR) : Nat → Int := rs.foldl (fun t r => if nwR t r = true then setR t r.1.toNat r.2 else t) T
theorem ly_nw (T : Nat → Int) : ∀ (rs : List SR) (t : Nat → Int) (l : Int), -1 ≤ l → rises l rs = true → (∀ b : Nat, l < (b : Int) → rowT t b = rowT T b) → layS t (nwL T rs) = ly t rs
  | [], _, _, _, _, _ => rfl
  | r :: rs, t, l, hl, h, ht => by
    simp only [rises, Bool.and_eq_true, decide_eq_true_eq] at h
    have hb : rowT t r.1.toNat = rowT T r.1.toNat := ht _ (by omega)
    have hn : nwR t r = nwR T r := by unfold nwR; rw [hb]
    unfold nwL ly
    rw [List.filter_cons, List.foldl_cons, hn]
    cases hc : nwR T r
    · exact ly_nw T rs t r.1 (by omega) h.2 (fun b hb2 => ht b (by omega))
    · exact ly_nw T rs (setR t r.1.toNat r.2) r.1 (by omega) h.2 (fun b hb2 => by rw [rowT_other _ _ (by omega)]; exact ht b (by omega))
theorem ly_snoc (T : Nat → Int) (rs : List SR) (r : SR) : ly T (rs ++ [r]) = if nwR (ly T rs) r = true then setR (ly T rs) r.1.toNat r.2 else ly T rs := by
  unfold ly
  rw [List.foldl_append]
  rfl
theorem layS_snoc (T : Nat → Int) (rs : List SR) (r : SR) : layS T (rs ++ [r]) = setR (layS T rs) r.1.toNat r.2 := by
  unfold layS
  rw [List.foldl_append]
  rfl

/-- What is handed out: a row's bucket, its entry. -/
def encCl (r : SR) : Array Value := #[.int .i64 r.1, entV r.2]
def BkOk (_ : List SR) (x : SR) : Prop := 0 ≤ x.1 ∧ x.1 < 16
/-- What lay below n, and all blocks of cells but one, lie as they lay. -/
def KpB (n b : Nat) (V V' : World) : Prop := Below n V V' ∧ ∀ k cur t r, k ≠ b → V.heap[k]? = some (.cells cur t r) → V'.heap[k]? = some (.cells cur t r)
theorem KpB.refl (n b : Nat) (V : World) : KpB n b V V := ⟨Below.refl _ _, fun _ _ _ _ _ h => h⟩
theorem KpB.trans {n b : Nat} {A B C : World} (h : KpB n b A B) (k : KpB n b B C) : KpB n b A C := ⟨h.1.trans k.1, fun i c t r hi hc => k.2 i c t r hi (h.2 i c t r hi hc)⟩
theorem KpB.below {n b : Nat} {A B : World} (hn : n ≤ A.heap.size) (h : Below A.heap.size A B) : KpB n b A B := ⟨h.mono hn, fun _ _ _ _ _ hc => bb hc h⟩
theorem KpB.put {n b : Nat} {w : World} (hn : n ≤ w.heap.size) (W : World) (l : Nat) (o o' : Obj) (hl : w.heap.size ≤ l) (h : W.heap[l]? = some o) (h1 : o.isCells = false) (h2 : o.isWalk = false) : KpB n b W (W.putObj l o') :=
  ⟨belowK_b hn W l o o' hl h h1 h2, fun k cur t r _ hc => by
    have hne : k ≠ l := by
      rintro rfl
      rw [h] at hc
      injection hc with hc
      subst hc
      cases h1
    exact (World.putObj_heap_other (fun e => hne (by rw [e]))).trans hc⟩
theorem nwL_yes {T : Nat → Int} {rs : List SR} {k : Nat} (h : k < rs.length) (hn : nwR T (rs[k]?.getD sr0) = true) : nwL T (rs.take k) ++ [rs[k]?.getD sr0] = nwL T (rs.take (k + 1)) := by
  unfold nwL
  rw [List.take_add_one, List.getElem?_eq_getElem h, List.filter_append]
  rw [List.getElem?_eq_getElem h] at hn
  simp only [Option.getD_some] at hn
  simp [hn]
theorem nwL_no {T : Nat → Int} {rs : List SR} {k : Nat} (h : k < rs.length) (hn : nwR T (rs[k]?.getD sr0) = false) : nwL T (rs.take k) = nwL T (rs.take (k + 1)) := by
  unfold nwL
  rw [List.take_add_one, List.getElem?_eq_getElem h, List.filter_append]
  rw [List.getElem?_eq_getElem h] at hn
  simp only [Option.getD_some] at hn
  simp [hn]

set_option maxRecDepth 100000 in
set_option maxHeartbeats 2000000 in
theorem newer_in (n : Nat) (T : Nat → Int) (ba tv : Int) (sa : Option Addr) (sn sc : Nat) (w : World) :
    CallsIn Fence.wide n Try.prog 77 #[tabV T, .agg #[.int .i64 ba, .int .i64 tv, .slice sa sn sc]] w fun e w' => e = .returned (.func (.func 82) #[] #[.pointer (some ⟨w.heap.size + 1, 0, none⟩), .pointer (some ⟨w.heap.size, 0, none⟩)]) ∧ w' = (w.alloc (.cells (numL 65 T).toArray 26)).alloc (.cells #[.int .i64 ba, .int .i64 tv, .slice sa sn sc] 29) := by
  refine callsIn_of_wp Try.func77 rfl trivial ?_ rfl
  simp only [Try.ntmps77, List.size_toArray, List.length_cons, List.length_nil, Nat.reduceAdd, Nat.reduceSub, Array.replicate_succ, Array.replicate_zero, List.push_toArray, List.append_toArray, List.nil_append, List.cons_append]
  gi_wp2
  go_ret
  exact ⟨rfl, rfl⟩

set_option maxRecDepth 100000 in
set_option maxHeartbeats 4000000 in
theorem newIter_in (n : Nat) (hn : 6 ≤ n) (B B' b0 base : Nat) (T : Nat → Int) (ba tv : Int) (sa : Option Addr) (sn sc : Nat) (rs : List SR) (hl : rs.length = sn) (hs : sn ≤ 4000000) (hri : ∀ r ∈ rs, 0 ≤ r.1 ∧ r.1 < 16) (l : Nat) (J Jx : List SR → World → Prop) (W : World) (hb : NB B 26 65 T W) (hb' : W.heap[B']? = some (.cells #[.int .i64 ba, .int .i64 tv, .slice sa sn sc] 29 (0, 0)))
    (hB : B ≠ b0) (hW : base ≤ W.heap.size) (hsr : SRow5 base W sa rs)
    (hN : ∀ pre V V', J pre V → Below V.heap.size V V' → J pre V')
    (hY : ∀ pre x V, J pre V → BkOk pre x → YieldAt Fence.wide (n - 1) Try.prog l (encCl x) V fun e V' => (e = .returned (.bool true) ∧ J (pre ++ [x]) V' ∧ KpB base b0 V V') ∨ (e = .returned (.bool false) ∧ Jx (pre ++ [x]) V'))
    (h0 : J [] W) :
    CallsIn Fence.wide n Try.prog 82 #[.func (.yield l) #[] #[], .pointer (some ⟨B', 0, none⟩), .pointer (some ⟨B, 0, none⟩)] W fun e W' => (∃ v, e = .returned v) ∧
      ((∃ xs, xs = nwL T rs ∧ J xs W') ∨ (∃ pre, True ∧ Jx pre W')) := by
  refine callsIn_of_wp Try.func82 rfl trivial ?_ rfl
  simp only [Try.ntmps82, List.size_toArray, List.length_cons, List.length_nil, Nat.reduceAdd, Nat.reduceSub, Array.replicate_succ, Array.replicate_zero, List.push_toArray, List.append_toArray, List.nil_append, List.cons_append]
  obtain ⟨q0, q1, q2⟩ := sh_cells _ _ _ _ _ hb'
  have HN := Lib.hid hN
  have HY := Lib.hid hY
  have HS := Lib.hid hsr
  have HT := Lib.hid hb
  have HH := Lib.hid (And.intro hl (And.intro hri (And.intro hB hW)))
  have HJ0 := Lib.hid h0
  have K0 := KpB.refl base b0 W
  clear hN hY hsr hb hl hri hb' h0 hB hW
  gi_wp2
  clear q0 q1 q2
  gi_loopw [9] (fun i wr => ∃ k : Nat, k ≤ sn ∧ i = .int .i64 (k : Nat) ∧ J (nwL T (rs.take k)) wr ∧ KpB base b0 W wr) (fun i _ => sn - (intOf i).toNat)
  case atStart => exact ⟨0, by omega, rfl, HJ0.out, K0⟩
  case round =>
    obtain ⟨k, hk, rfl, hJ, hKp⟩ := hrel
    have HJ := Lib.hid hJ
    have HK := Lib.hid hKp
    clear hJ hKp K0
    by_cases hlt : k < sn
    · have hk0 : (0 : Int) ≤ (k : Int) := by omega
      have hk1 : (k : Int) < (sn : Int) := by omega
      have hkl : k < rs.length := by rw [HH.out.1]; exact hlt
      have hSR := HS.out.below HK.out.1
      obtain ⟨bs, off, rfl, hbs⟩ := sr_addr hSR (by omega)
      obtain ⟨c0, c1, c2, c3, c4⟩ := sr_at hSR k hkl
      have hr := HH.out.2.1 (rs[k]?.getD sr0) (by rw [List.getElem?_eq_getElem hkl]; exact List.getElem_mem hkl)
      obtain ⟨r, hre⟩ : ∃ r, rs[k]?.getD sr0 = r := ⟨_, rfl⟩
      rw [hre] at c0 c1 c2 c3 c4 hr
      obtain ⟨p, hp⟩ : ∃ p, nwR T r = p := ⟨_, rfl⟩
      have hyes : p = true → nwL T (rs.take k) ++ [r] = nwL T (rs.take (k + 1)) := fun h => by rw [← hre]; exact nwL_yes hkl (by rw [hre, hp]; exact h)
      have hno : p = false → nwL T (rs.take k) = nwL T (rs.take (k + 1)) := fun h => nwL_no hkl (by rw [hre, hp]; exact h)
      have HYES := Lib.hid hyes
      have HNO := Lib.hid hno
      clear hyes hno hre
      obtain ⟨z, u0, u1, u2, u3⟩ := r
      obtain ⟨b, rfl⟩ : ∃ b : Nat, z = (b : Int) := ⟨z.toNat, by simp only at hr; omega⟩
      have hb16 : b < 16 := by simp only at hr; omega
      have hb1 : (b : Int) < 16 := by omega
      have hNB : NB B 26 65 T wr := HK.out.2 B _ _ _ HH.out.2.2.1 HT.out
      obtain ⟨t, ht⟩ : ∃ t, rowT T b = t := ⟨_, rfl⟩
      have hdef : p = decide (t.2.2.1 < u2) := by rw [← hp, ← ht]; rfl
      have HQ := Lib.hid (fun W (m : Below wr.heap.size wr W) => ht ▸ rng_row (bb hNB m) b hb16)
      clear ht hp
      obtain ⟨t0, t1, t2, t3⟩ := t
      simp only at c0 c1 c2 c3 c4
      have hd := heap_alloc_new wr (.cells #[.int .i64 0, .int .i64 0, .int .i64 0, .int .i64 0, .int .i64 0] 63)
      obtain ⟨z0, z1, z2, z3, z4⟩ := sr_cells _ _ _ _ _ hd
      have f0 := sh_frozen hd 0
      have f1 := sh_frozen hd 1
      have f2 := sh_frozen hd 2
      have f3 := sh_frozen hd 3
      have f4 := sh_frozen hd 4
      have HXX := Lib.hid (heap_alloc_new wr (.cells #[.int .i64 (b : Nat), .int .i64 u0, .int .i64 u1, .int .i64 u2, .int .i64 u3] 63))
      have HL := Lib.hid ((Below.refl wr.heap.size wr).alloc (Nat.le_refl _) (.cells #[.int .i64 (b : Nat), .int .i64 u0, .int .i64 u1, .int .i64 u2, .int .i64 u3] 63))
      have HB := Lib.hid (And.intro hr hbs)
      have HD := Lib.hid hdef
      clear hd hNB hr hdef hSR hbs
      gi_wp2_with fail
      clear z0 z1 z2 z3 z4 f0 f1 f2 f3 f4 c0 c1 c2 c3 c4
      refine wpIn_region_any (by kernel_rfl) ?_
      try (change wpAnyIn _ _ _ _ _ _ _ _ _ (World.drew _))
      rename_i K1 A1 K2 A2
      have HA1 := Lib.hid A1
      have HA2 := Lib.hid A2
      clear A1 A2
      have hV0 := HXX.out
      have LV := HL.out
      generalize wr.alloc (.cells #[.int .i64 (b : Nat), .int .i64 u0, .int .i64 u1, .int .i64 u2, .int .i64 u3] 63) = Va at *
      have hV : Va.drew.heap[wr.heap.size]? = some (.cells #[.int .i64 (b : Nat), .int .i64 u0, .int .i64 u1, .int .i64 u2, .int .i64 u3] 63 (0, 0)) := hV0
      have LVd : Below wr.heap.size wr Va.drew := LV.drew
      clear HXX HL hV0 LV
      try (change wpAnyIn _ _ _ _ _ _ _ _ _ Va.drew)
      generalize Va.drew = V at *
      have HC := Lib.hid (rfl : wr.heap.size = wr.heap.size)
      generalize V = V0 at *
      obtain ⟨x0, x1, x2, x3, x4⟩ := sr_cells _ _ _ _ _ hV
      obtain ⟨y0, y1, y2, y3⟩ := ent_of_range _ _ _ _ (HQ.out V0 LVd)
      refine takeV (i := 0) (d := (some 13)) rfl rfl rfl (by kernel_rfl) (by kernel_rfl) (by kernel_rfl) (fun _ _ _ h => h) (by kernel_rfl) (by intro w; go_simp; try with_reducible rfl) (fun _ => rfl) ?_
      refine takeV (i := 2) (d := (some 15)) rfl rfl rfl (by kernel_rfl) (by kernel_rfl) (by kernel_rfl) (fun _ _ _ h => h) (by kernel_rfl) (by intro w; go_simp; try with_reducible rfl) (fun _ => rfl) ?_
      refine takeV (i := 4) (d := (some 17)) rfl rfl rfl (by kernel_rfl) (by kernel_rfl) (by kernel_rfl) (fun _ _ _ h => h) (by kernel_rfl) (by intro w; go_simp; try with_reducible rfl) (fun _ => rfl) ?_
      apply shareW (F := fun V' => V0 = V')
      · intro h1
        refine wpAnyIn_ready (rs := [1, 3]) (by kernel_rfl) (by simp) ?_
        refine AllReadyIn.cons rfl (fun K hK => ?_) (AllReadyIn.cons rfl (fun K hK => ?_) AllReadyIn.nil)
        · skip
          go_simp
          refine hK _ _ ?_
          clear hK K
          refine wpAnyIn_ready (rs := [3]) (by kernel_rfl) (by simp) ?_
          refine AllReadyIn.cons rfl (fun K hK => ?_) AllReadyIn.nil
          go_simp
          refine hK _ _ ?_
          clear hK K
          refine takeV (i := 5) (d := (some 18)) rfl rfl rfl (by kernel_rfl) (by kernel_rfl) (by kernel_rfl) (fun _ _ _ h => h) (by kernel_rfl) (by intro w; go_simp; try with_reducible rfl) (fun _ => rfl) ?_
          refine wpAnyIn_ready (rs := [6]) (by kernel_rfl) (by simp) ?_
          refine AllReadyIn.cons rfl (fun K hK => ?_) AllReadyIn.nil
          go_simp
          refine hK _ _ ?_
          clear hK K
          exact h1 _ rfl
        · skip
          go_simp
          refine hK _ _ ?_
          clear hK K
          refine takeV (i := 5) (d := (some 18)) rfl rfl rfl (by kernel_rfl) (by kernel_rfl) (by kernel_rfl) (fun _ _ _ h => h) (by kernel_rfl) (by intro w; go_simp; try with_reducible rfl) (fun _ => rfl) ?_
          refine wpAnyIn_ready (rs := [1, 6]) (by kernel_rfl) (by simp) ?_
          refine AllReadyIn.cons rfl (fun K hK => ?_) (AllReadyIn.cons rfl (fun K hK => ?_) AllReadyIn.nil)
          · skip
            go_simp
            refine hK _ _ ?_
            clear hK K
            refine wpAnyIn_ready (rs := [6]) (by kernel_rfl) (by simp) ?_
            refine AllReadyIn.cons rfl (fun K hK => ?_) AllReadyIn.nil
            go_simp
            refine hK _ _ ?_
            clear hK K
            exact h1 _ rfl
          · skip
            go_simp
            refine hK _ _ ?_
            clear hK K
            refine wpAnyIn_ready (rs := [1]) (by kernel_rfl) (by simp) ?_
            refine AllReadyIn.cons rfl (fun K hK => ?_) AllReadyIn.nil
            go_simp
            refine hK _ _ ?_
            clear hK K
            exact h1 _ rfl
      intro V' e1
      subst e1
      refine wpAnyIn_ready (rs := [7]) (by kernel_rfl) (by simp) ?_
      refine AllReadyIn.cons rfl (fun K hK => ?_) AllReadyIn.nil
      go_simp
      refine ⟨trivial, (fun _ => by omega), callsIn_wide.2 ((eNewer_any u0 u1 u2 u3 t0 t1 t2 t3 V0).mono ?_)⟩
      rintro e W2 ⟨rfl, m2⟩
      rw [← HD.out]
      replace hV := bb hV m2
      replace LVd := LVd.trans (m2.mono LVd.size)
      clear x0 x1 x2 x3 x4 y0 y1 y2 y3 m2 V0
      refine hK _ _ ?_
      clear hK K
      cases p
      · skip
        refine takeV (i := 8) (d := (some 21)) rfl rfl rfl (by kernel_rfl) (by kernel_rfl) (by kernel_rfl) (fun _ _ _ h => h) (by kernel_rfl) (by intro w; go_simp; try with_reducible rfl) (fun _ => rfl) ?_
        refine takeU (i := 9) (d := (some 22)) rfl rfl rfl (by kernel_rfl) (by kernel_rfl) (by kernel_rfl) (fun _ _ _ h => h) (by kernel_rfl) (fun _ => by kernel_rfl) ?_
        refine takeU (i := 10) (d := (some 23)) rfl rfl rfl (by kernel_rfl) (by kernel_rfl) (by kernel_rfl) (fun _ _ _ h => h) (by kernel_rfl) (fun _ => by kernel_rfl) ?_
        refine takeU (i := 11) (d := (some 24)) rfl rfl rfl (by kernel_rfl) (by kernel_rfl) (by kernel_rfl) (fun _ _ _ h => h) (by kernel_rfl) (fun _ => by kernel_rfl) ?_
        refine takeU (i := 12) (d := (some 25)) rfl rfl rfl (by kernel_rfl) (by kernel_rfl) (by kernel_rfl) (fun _ _ _ h => h) (by kernel_rfl) (fun _ => by kernel_rfl) ?_
        refine takeU (i := 13) (d := (some 26)) rfl rfl rfl (by kernel_rfl) (by kernel_rfl) (by kernel_rfl) (fun _ _ _ h => h) (by kernel_rfl) (fun _ => by kernel_rfl) ?_
        refine takeU (i := 14) (d := (some 27)) rfl rfl rfl (by kernel_rfl) (by kernel_rfl) (by kernel_rfl) (fun _ _ _ h => h) (by kernel_rfl) (fun _ => by kernel_rfl) ?_
        refine takeU (i := 15) (d := (some 28)) rfl rfl rfl (by kernel_rfl) (by kernel_rfl) (by kernel_rfl) (fun _ _ _ h => h) (by kernel_rfl) (fun _ => by kernel_rfl) ?_
        refine takeV (i := 16) (d := (some 29)) rfl rfl rfl (by kernel_rfl) (by kernel_rfl) (by kernel_rfl) (fun _ _ _ h => h) (by kernel_rfl) (by intro w; go_simp; try with_reducible rfl) (fun _ => rfl) ?_
        refine wpAnyIn_done (by kernel_rfl) ?_ _
        simp only [Exit.then, Act.put, List.setIfInBounds_toArray, List.set_cons_zero, List.set_cons_succ]
        refine HA2.out _ _ ?_
        have A1 := HA1.out
        have HLV := Lib.hid LVd
        clear LVd hV
        gi_wp2
        go_roundw
        case rel => exact ⟨k + 1, by omega, by go_num, by rw [← HNO.out rfl]; exact HN.out _ _ _ HJ.out (HC.out ▸ HLV.out), HK.out.trans (KpB.below (Nat.le_trans HH.out.2.2.2 HK.out.1.size) (HC.out ▸ HLV.out))⟩
        case measure => simp [intOf]; omega
      have hY2 := HY.out (nwL T (rs.take k)) ((b : Int), u0, u1, u2, u3) W2 (HN.out _ _ _ HJ.out (HC.out ▸ LVd)) HB.out.1
      unfold encCl at hY2
      obtain ⟨fn, tmps, assign, body, hy, hr⟩ := hY2
      have y := (show (Instr.yield l #[.int .i64 (b : Nat), .agg #[.int .i64 u0, .int .i64 u1, .int .i64 u2, .int .i64 u3]]).run Try.prog W2 = .ok (.round l fn tmps assign body) W2 from hy)
      have HR := Lib.hid hr
      obtain ⟨x0, x1, x2, x3, x4⟩ := sr_cells _ _ _ _ _ hV
      clear hy hr hV
      refine takeV (i := 8) (d := (some 21)) rfl rfl rfl (by kernel_rfl) (by kernel_rfl) (by kernel_rfl) (fun _ _ _ h => h) (by kernel_rfl) (by intro w; go_simp; try with_reducible rfl) (fun _ => rfl) ?_
      refine takeV (i := 9) (d := (some 22)) rfl rfl rfl (by kernel_rfl) (by kernel_rfl) (by kernel_rfl) (fun _ _ _ h => h) (by kernel_rfl) (by intro w; go_simp; try with_reducible rfl) (fun _ => rfl) ?_
      refine takeV (i := 10) (d := (some 23)) rfl rfl rfl (by kernel_rfl) (by kernel_rfl) (by kernel_rfl) (fun _ _ _ h => h) (by kernel_rfl) (by intro w; go_simp; try with_reducible rfl) (fun _ => rfl) ?_
      refine takeV (i := 12) (d := (some 25)) rfl rfl rfl (by kernel_rfl) (by kernel_rfl) (by kernel_rfl) (fun _ _ _ h => h) (by kernel_rfl) (by intro w; go_simp; try with_reducible rfl) (fun _ => rfl) ?_
      apply shareW (F := fun V' => W2 = V')
      · intro h1
        refine wpAnyIn_ready (rs := [11, 13]) (by kernel_rfl) (by simp) ?_
        refine AllReadyIn.cons rfl (fun K hK => ?_) (AllReadyIn.cons rfl (fun K hK => ?_) AllReadyIn.nil)
        · skip
          go_simp
          refine hK _ _ ?_
          clear hK K
          refine wpAnyIn_ready (rs := [13]) (by kernel_rfl) (by simp) ?_
          refine AllReadyIn.cons rfl (fun K hK => ?_) AllReadyIn.nil
          go_simp
          refine hK _ _ ?_
          clear hK K
          exact h1 _ rfl
        · skip
          go_simp
          refine hK _ _ ?_
          clear hK K
          refine wpAnyIn_ready (rs := [11]) (by kernel_rfl) (by simp) ?_
          refine AllReadyIn.cons rfl (fun K hK => ?_) AllReadyIn.nil
          go_simp
          refine hK _ _ ?_
          clear hK K
          exact h1 _ rfl
      intro V' e1
      subst e1
      refine wpAnyIn_ready (rs := [14]) (by kernel_rfl) (by simp) ?_
      refine AllReadyIn.cons rfl (fun K hK => ?_) AllReadyIn.nil
      go_simp
      refine ⟨fun _ => by omega, HR.out.mono ?_⟩
      rintro e3 W3 (⟨rfl, J3, K3⟩ | ⟨rfl, Jx3⟩)
      · have HJ3 := Lib.hid J3
        have HK3 := Lib.hid ((HK.out.trans (KpB.below (Nat.le_trans HH.out.2.2.2 HK.out.1.size) (HC.out ▸ LVd))).trans K3)
        clear J3 K3 y x0 x1 x2 x3 x4 HR LVd
        refine hK _ _ ?_
        clear hK K
        refine takeV (i := 15) (d := (some 28)) rfl rfl rfl (by kernel_rfl) (by kernel_rfl) (by kernel_rfl) (fun _ _ _ h => h) (by kernel_rfl) (by intro w; go_simp; try with_reducible rfl) (fun _ => rfl) ?_
        refine takeV (i := 16) (d := (some 29)) rfl rfl rfl (by kernel_rfl) (by kernel_rfl) (by kernel_rfl) (fun _ _ _ h => h) (by kernel_rfl) (by intro w; go_simp; try with_reducible rfl) (fun _ => rfl) ?_
        refine wpAnyIn_done (by kernel_rfl) ?_ _
        simp only [Exit.then, Act.put, List.setIfInBounds_toArray, List.set_cons_zero, List.set_cons_succ]
        refine HA2.out _ _ ?_
        have A1 := HA1.out
        gi_wp2
        go_roundw
        case rel => exact ⟨k + 1, by omega, by go_num, by rw [← HYES.out rfl]; exact HJ3.out, HK3.out⟩
        case measure => simp [intOf]; omega
      · have HJ3 := Lib.hid Jx3
        clear Jx3 y x0 x1 x2 x3 x4 HR LVd
        refine hK _ _ ?_
        clear hK K
        refine takeV (i := 15) (d := (some 28)) rfl rfl rfl (by kernel_rfl) (by kernel_rfl) (by kernel_rfl) (fun _ _ _ h => h) (by kernel_rfl) (by intro w; go_simp; try with_reducible rfl) (fun _ => rfl) ?_
        refine takeV (i := 16) (d := (some 29)) rfl rfl rfl (by kernel_rfl) (by kernel_rfl) (by kernel_rfl) (fun _ _ _ h => h) (by kernel_rfl) (by intro w; go_simp; try with_reducible rfl) (fun _ => rfl) ?_
        refine wpAnyIn_done (by kernel_rfl) ?_ _
        simp only [Exit.then, Act.put, List.setIfInBounds_toArray, List.set_cons_zero, List.set_cons_succ]
        refine HA2.out _ _ ?_
        have A1 := HA1.out
        gi_wp2
        refine bodyPost_ret (results_none rfl _ _ _) rfl ?_
        exact ⟨⟨_, rfl⟩, .inr ⟨_, HJ3.out⟩⟩
    · obtain rfl : k = sn := by omega
      have e := Lib.hid (show rs.take k = rs from List.take_of_length_le (by rw [HH.out.1]; exact Nat.le_refl _))
      gi_wp2
      go_end0
      exact ⟨⟨_, rfl⟩, .inl ⟨_, rfl, by rw [← e.out]; exact HJ.out⟩⟩
end Go.Proofs.Ythgoopdekllanaa
