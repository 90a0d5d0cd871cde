/- A table's snapshot, two tables' delta: the document's. -/
import Derived.Test.YthgoopdekllanaaShI
namespace Go.Proofs.Ythgoopdekllanaa
open Go.RowKit Go.Shelf
open SumM

attribute [local go_sem] Oper.semAt_some
attribute [local go_sem ↓] nm_ldT nm_ldA nm_stT

/-- An append in a region that draws its order, onto a row of the call's own, of elements of sz cells. -/
theorem step_append_s {P : Program} (w : World) {ops : Array Oper} {o : Oper} {a : Act} {K : Act → World → Prop} {Q : Exit → Act → World → Prop} {E : Prop} (hw : Region.wanted o (yielded ops a.tmps) = true) (s x : Operand) (t : TypeId)
    (ho : o.op = .call { callee := .builtin .append, args := #[s, x], argTypes := #[t, t] })
    (base : Nat) (e : TypeId) (i : TypeInfo) (z : Value) (sz bytes : Nat) (ht : P.underlying t = some (.slice e)) (hi : P.info? e = some i) (hz : i.zero = some z)
    (hsize : i.size = sz) (hby : i.bytes = bytes) (hzs : z.cells.size = sz) (hsz : 0 < sz)
    (v : Value) (n : Nat) (xs : List Value) (hs : a.eval s = v) (hown : w.ownsRow base e sz v n xs)
    (ad : Addr) (m c : Nat) (news : List Value) (hx : a.eval x = .slice (some ad) m c) (hl : news.length = m * sz) (hnews : ∀ j u, news[j]? = some u → w.cell? (ad.add j) = some u) (h1 : ∀ u ∈ news, u.oneCell' = true)
    (hm : 0 < m) (h63 : n + m ≤ maxLen) (hbytes : (n + m) * bytes ≤ 140737488355328) (hbase : base ≤ w.heap.size)
    (h : ∀ g cap w', w'.ownsRow base e sz (.slice (some ⟨g, 0, none⟩) (n + m) cap) (n + m) (xs ++ news) → w.grownBy w' v.ownBlock → K (a.put o.dst (.slice (some ⟨g, 0, none⟩) (n + m) cap)) w') :
    if Region.wanted o (yielded ops a.tmps) = true then Oper.wp P o a w K Q else E := by
  rw [if_pos hw]
  exact wp_append_lies w s x t ho base e i z sz bytes ht hi hz hsize hby hzs hsz v n xs hs hown ad m c news hx hl hnews h1 hm h63 hbytes hbase _ rfl fun g cap w' h2 h3 _ _ => h g cap w' h2 h3

/-- While rows are appended to a sheet's box: where all lies. -/
structure OfI (L : List (Nat × Array Value × TypeId)) (ba tv : Int) (B m : Nat) (w : World) (v : Value) (rs : List SR) (W : World) : Prop where
  bm : B ≤ m
  lo : Below B w W
  st : ∀ p ∈ L, W.heap[p.1]? = some (.cells p.2.1 p.2.2 (0, 0))
  sb : W.heap[m]? = some (.cells #[.int .i64 ba, .int .i64 tv, v] 29 (0, 0))
  ow : W.ownsRow B 63 5 v rs.length (flatS rowC rs)
theorem OfI.drew {L : List (Nat × Array Value × TypeId)} {ba tv : Int} {B m : Nat} {w : World} {v : Value} {rs : List SR} {W : World} (h : OfI L ba tv B m w v rs W) : OfI L ba tv B m w v rs W.drew :=
  ⟨h.bm, ⟨h.lo.os, h.lo.tape, h.lo.output, h.lo.size, h.lo.block⟩, h.st, h.sb, h.ow⟩
theorem OfI.below {L : List (Nat × Array Value × TypeId)} {ba tv : Int} {B m : Nat} {w : World} {v : Value} {rs : List SR} {W W' : World} (h : OfI L ba tv B m w v rs W) (k : Below W.heap.size W W') : OfI L ba tv B m w v rs W' :=
  ⟨h.bm, h.lo.trans (k.mono (Nat.le_trans h.bm (Nat.le_of_lt (nb_lt2 h.sb)))), fun p hp => bb (h.st p hp) k, bb h.sb k, ownS_below h.ow k⟩
theorem OfI.grown {L : List (Nat × Array Value × TypeId)} {ba tv : Int} {B m : Nat} {w : World} {v v9 : Value} {rs : List SR} {W W9 : World} {o : Obj} (h : OfI L ba tv B m w v rs W) (hL : ∀ p ∈ L, p.1 ≠ m ∧ p.2.2 ∈ [26, 29]) (r : SR)
    {n : Nat} (hn : rs.length = n) (g : (W.alloc o).grownBy W9 v.ownBlock) (O9 : W9.ownsRow B 63 5 v9 (n + 1) (flatS rowC rs ++ rowC r)) :
    W9.heap[m]? = some (.cells #[.int .i64 ba, .int .i64 tv, v] 29 (0, 0)) ∧ (∀ p ∈ L, W9.heap[p.1]? = some (.cells p.2.1 p.2.2 (0, 0))) ∧ OfI L ba tv B m w v9 (rs ++ [r]) (W9.setCell ⟨m, 2, none⟩ v9) := by
  subst hn
  have hm := keepT_grown (ts := [26, 29]) h.ow (by decide) g m _ _ _ (by simp) h.sb
  have hp : ∀ p ∈ L, W9.heap[p.1]? = some (.cells p.2.1 p.2.2 (0, 0)) := fun p hp => keepT_grown (ts := [26, 29]) h.ow (by decide) g p.1 _ _ _ (hL p hp).2 (h.st p hp)
  have hW : B ≤ W.heap.size := Nat.le_trans h.bm (Nat.le_of_lt (nb_lt2 h.sb))
  refine ⟨hm, hp, h.bm, ?_, ?_, ?_, ?_⟩
  · exact ((h.lo.alloc hW o).grown g (by simp; omega) (fun j hj => (h.ow.lt j hj).1)).setCell (p := ⟨m, 2, none⟩) h.bm v9
  · exact fun p hq => (Below.heap_setCell _ _ _ _ (by exact (hL p hq).1)).trans (hp p hq)
  · rw [heap_setCell_same _ m 2 _ _ _ hm]
    rfl
  · have hf : flatS rowC (rs ++ [r]) = flatS rowC rs ++ rowC r := by rw [flatS_append]; simp [flatS]
    have hlen : (rs ++ [r]).length = rs.length + 1 := by simp
    rw [hf, hlen]
    exact ownS_apart (by decide) [v9] 2 _ _ O9 hm

set_option maxRecDepth 100000 in
set_option maxHeartbeats 4000000 in
theorem r11Of_any (T : Nat → Int) (w : World) : Calls Try.prog 12 #[tabV T] w (ShRet (ofS T) w) := by
  obtain ⟨i0, hi, hz0, hz1, hz2⟩ := info_parts Try.infoRow
  have bT := blkN (heap_alloc_new w (.cells (numL 65 T).toArray 26)) (.cells #[.int .i64 0, .int .i64 0, .slice none 0 0] 29)
  have bR := newN (w.alloc (.cells (numL 65 T).toArray 26)) (.cells #[.int .i64 0, .int .i64 0, .slice none 0 0] 29) (w.heap.size + 1) (by simp)
  have L0 := ((Below.refl w.heap.size w).alloc (Nat.le_refl _) (.cells (numL 65 T).toArray 26)).alloc (by simp) (.cells #[.int .i64 0, .int .i64 0, .slice none 0 0] 29)
  go_enter Try.func12, Try.ntmps12
  go_upto_region 1 with fail
  generalize (w.alloc (.cells (numL 65 T).toArray 26)).alloc (.cells #[.int .i64 0, .int .i64 0, .slice none 0 0] 29) = W0 at *
  have l0 := ld_tab bT
  obtain ⟨g, hg⟩ : ∃ g, rgT T = g := ⟨_, rfl⟩
  have KR := Lib.hid (hg ▸ r10Right_any T W0)
  go_wp2_with fail
  refine KR.out.mono ?_
  rintro e w1 ⟨rfl, m1⟩
  have hF := show ofS T = if g = true then (-1, T 0, allS T, 0) else (0, 0, [], 2) by unfold ofS; rw [hg]
  have HF := Lib.hid hF
  clear hF
  replace bT := bb bT m1
  replace bR := bb bR m1
  have LL := L0.trans (m1.mono L0.size)
  clear l0 m1 KR hg
  cases g
  · obtain ⟨y0, y1, y2⟩ := sh_cells _ _ _ _ _ bR
    have f0 := sh_frozen bR 0
    have f1 := sh_frozen bR 1
    have f3 := sh_frozen bR 2
    have HR := Lib.hid bR
    have HL := Lib.hid LL
    clear LL bT bR
    go_wp2
    refine bodyPost_ret (results_sh2 rfl _ _ (w.heap.size + 1) _ (0, 0) rfl (full_setCells HR.out [.int .i64 0, .int .i64 0, .slice none 0 0] rfl) rfl) rfl ?_
    rw [HF.out]
    exact ⟨_, rfl, World.ownsRow_nil _ _ _ _, below_setCells (w.heap.size + 1) (by omega) [.int .i64 0, .int .i64 0, .slice none 0 0] 0 w _ HL.out⟩
  have c0 := nb_cell bT (o := 0) (by omega)
  have hd := heap_alloc_new w1 (.cells #[.int .i64 0, .int .i64 0, .slice none 0 0] 29)
  obtain ⟨y0, y1, y2⟩ := sh_cells _ _ _ _ _ hd
  have f0 := sh_frozen hd 0
  have f1 := sh_frozen hd 1
  have f3 := sh_frozen hd 2
  have hm : w.heap.size + 1 < w1.heap.size := nb_lt2 bR
  have HI := Lib.hid (show OfI [(w.heap.size, (numL 65 T).toArray, 26), (w.heap.size + 1, #[.int .i64 0, .int .i64 0, .slice none 0 0], 29)] (-1) (T 0) w.heap.size w1.heap.size w (.slice none 0 0) ((allS T).take 0) (w1.alloc (.cells #[.int .i64 (-1), .int .i64 (T 0), .slice none 0 0] 29)) from
    ⟨by omega, LL.alloc LL.size _, (fun p hp => by
      rcases List.mem_cons.1 hp with rfl | hp
      · exact blkN bT _
      · rw [List.mem_singleton.1 hp]
        exact blkN bR _), heap_alloc_new w1 _, World.ownsRow_nil _ _ _ _⟩)
  clear hd LL bT bR
  go_wp2
  clear y0 y1 y2 f0 f1 f3 c0
  have HM := Lib.hid hm
  clear hm L0
  generalize w1.heap.size = m at *
  obtain ⟨L, hL⟩ : ∃ L : List (Nat × Array Value × TypeId), L = [(w.heap.size, (numL 65 T).toArray, 26), (w.heap.size + 1, #[.int .i64 0, .int .i64 0, .slice none 0 0], 29)] := ⟨_, rfl⟩
  rw [← hL] at HI
  have HLT := Lib.hid (show (w.heap.size, (numL 65 T).toArray, 26) ∈ L by rw [hL]; simp)
  have HLR := Lib.hid (show (w.heap.size + 1, #[.int .i64 0, .int .i64 0, .slice none 0 0], 29) ∈ L by rw [hL]; simp)
  have HLL := Lib.hid (show ∀ p ∈ L, p.1 ≠ m ∧ p.2.2 ∈ [26, 29] by
    have := HM.out
    rw [hL]
    intro p hp
    rcases List.mem_cons.1 hp with rfl | hp
    · exact ⟨by simp; omega, by simp⟩
    · rw [List.mem_singleton.1 hp]
      exact ⟨by simp; omega, by simp⟩)
  clear hL
  go_loopw [5] (fun i wr => ∃ k : Nat, k ≤ 16 ∧ i = .int .i64 (k : Nat) ∧ ∃ v, OfI L (-1) (T 0) w.heap.size m w v ((allS T).take k) wr) (fun i _ => 16 - (intOf i).toNat)
  case atStart => exact ⟨0, by omega, rfl, _, HI.out⟩
  case round =>
    obtain ⟨k, hk, rfl, v, hI⟩ := hrel
    clear HI
    by_cases hlt : k < 16
    · have hk1 : (k : Int) < 16 := by omega
      have hl : ((allS T).take k).length = k := by rw [List.length_take, allS_len]; omega
      have HS := Lib.hid (show (allS T).take k ++ [((k : Int), rowT T k)] = (allS T).take (k + 1) by
        rw [List.take_add_one, List.getElem?_eq_getElem (by rw [allS_len]; exact hlt), ← allS_get T hlt, List.getElem?_eq_getElem (by rw [allS_len]; exact hlt)]
        rfl)
      have HQ := Lib.hid (fun W (h : NB w.heap.size 26 65 T W) => rng_row h k hlt)
      generalize rowT T k = u at *
      obtain ⟨u0, u1, u2, u3⟩ := u
      generalize (allS T).take k = rs at *
      have hml := nb_lt2 hI.sb
      have nc := (Below.refl wr.heap.size wr).drew
      have y3 : wr.cell? ⟨m, 2, none⟩ = some v := by rw [cell_of_row _ _ _ _ _ _ hI.sb]; rfl
      have y2 : wr.drew.cell? ⟨m, 2, none⟩ = some v := by rw [cell_of_row _ _ _ _ _ _ hI.drew.sb]; rfl
      have CS := Lib.hid (fun W (mm : Below wr.heap.size wr W) => ent_of_range _ _ _ _ (HQ.out W ((hI.below mm).st _ HLT.out)))
      have HI := Lib.hid hI.drew
      have HOW := Lib.hid (show wr.drew.ownsRow w.heap.size 63 5 v k (flatS rowC rs) by rw [← hl]; exact hI.drew.ow)
      clear hI
      go_upto_region 7 with fail
      refine wp_region_held_drew (S := fun W => W.cell? ⟨w.heap.size, 1 + k * 4, none⟩ = some (.int .i64 u0) ∧ W.cell? ⟨w.heap.size, 1 + k * 4 + 1, none⟩ = some (.int .i64 u1) ∧ W.cell? ⟨w.heap.size, 1 + k * 4 + 2, none⟩ = some (.int .i64 u2) ∧ W.cell? ⟨w.heap.size, 1 + k * 4 + 3, none⟩ = some (.int .i64 u3)) (by kernel_rfl) (CS.out _ nc) (fun hHeld => ?_)
      refine wpAnyH_take (i := 0) (oi := { dst := some 17, op := Op.fieldAddr 29 (Operand.tmp 4) 2, type := 0, pos := "ref.go:50", after := #[], guard := none }) (v := ?_) rfl (by kernel_rfl) (by kernel_rfl) (by kernel_rfl) (fun _ _ _ h => h) (Or.inl ⟨by rfl, ?_⟩) (by assumption) ?_
      rotate_left
      · intro w hSw
        (try dsimp only at hSw)
        first | (go_simp; done) | (go_simp; with_reducible rfl)
      (try simp only [Act.put, List.setIfInBounds_toArray, List.set_cons_zero, List.set_cons_succ])
      refine wpAnyH_take (i := 2) (oi := { dst := some 19, op := Op.move (Operand.tmp 5), type := 3, pos := "ref.go:50", after := #[], guard := none }) (v := ?_) rfl (by kernel_rfl) (by kernel_rfl) (by kernel_rfl) (fun _ _ _ h => h) (Or.inl ⟨by rfl, ?_⟩) (by assumption) ?_
      rotate_left
      · intro w hSw
        (try dsimp only at hSw)
        first | (go_simp; done) | (go_simp; with_reducible rfl)
      (try simp only [Act.put, List.setIfInBounds_toArray, List.set_cons_zero, List.set_cons_succ])
      refine wpAnyH_take (i := 3) (oi := { dst := some 20, op := Op.move (Operand.tmp 5), type := 3, pos := "ref.go:50", after := #[], guard := none }) (v := ?_) rfl (by kernel_rfl) (by kernel_rfl) (by kernel_rfl) (fun _ _ _ h => h) (Or.inl ⟨by rfl, ?_⟩) (by assumption) ?_
      rotate_left
      · intro w hSw
        (try dsimp only at hSw)
        first | (go_simp; done) | (go_simp; with_reducible rfl)
      (try simp only [Act.put, List.setIfInBounds_toArray, List.set_cons_zero, List.set_cons_succ])
      refine wpAnyH_take (i := 4) (oi := { dst := some 21, op := Op.fieldAddr 26 (Operand.tmp 1) 1, type := 0, pos := "ref.go:50", after := #[], guard := none }) (v := ?_) rfl (by kernel_rfl) (by kernel_rfl) (by kernel_rfl) (fun _ _ _ h => h) (Or.inl ⟨by rfl, ?_⟩) (by assumption) ?_
      rotate_left
      · intro w hSw
        (try dsimp only at hSw)
        first | (go_simp; done) | (go_simp; with_reducible rfl)
      (try simp only [Act.put, List.setIfInBounds_toArray, List.set_cons_zero, List.set_cons_succ])
      refine wpAnyH_take (i := 5) (oi := { dst := some 22, op := Op.indexAddr 24 (Operand.tmp 21) (Operand.tmp 20), type := 0, pos := "ref.go:50", after := #[{ on := 4, ground := Ground.data }, { on := 3, ground := Ground.data }], guard := none }) (v := ?_) rfl (by kernel_rfl) (by kernel_rfl) (by kernel_rfl) (fun _ _ _ h => h) (Or.inl ⟨by rfl, ?_⟩) (by assumption) ?_
      rotate_left
      · intro w hSw
        (try dsimp only at hSw)
        first | (go_simp; done) | (go_simp; with_reducible rfl)
      (try simp only [Act.put, List.setIfInBounds_toArray, List.set_cons_zero, List.set_cons_succ])
      refine wpAnyH_take (i := 6) (oi := { dst := some 23, op := Op.load 23 (Operand.tmp 22), type := 23, pos := "ref.go:50", after := #[{ on := 5, ground := Ground.data }], guard := none }) (v := ?_) rfl (by kernel_rfl) (by kernel_rfl) (by kernel_rfl) (fun _ _ _ h => h) (Or.inl ⟨by rfl, ?_⟩) (by assumption) ?_
      rotate_left
      · intro w hSw
        (try dsimp only at hSw)
        first | (go_simp; done) | (go_simp; with_reducible rfl)
      (try simp only [Act.put, List.setIfInBounds_toArray, List.set_cons_zero, List.set_cons_succ])
      refine wpAnyH_take (i := 7) (oi := { dst := some 24, op := Op.build 63 #[(0, Operand.tmp 19), (1, Operand.tmp 23)], type := 63, pos := "ref.go:50", after := #[{ on := 2, ground := Ground.data }, { on := 6, ground := Ground.data }], guard := none }) (v := ?_) rfl (by kernel_rfl) (by kernel_rfl) (by kernel_rfl) (fun _ _ _ h => h) (Or.inl ⟨by rfl, ?_⟩) (by assumption) ?_
      rotate_left
      · intro w hSw
        (try dsimp only at hSw)
        first | (go_simp; done) | (go_simp; with_reducible rfl)
      (try simp only [Act.put, List.setIfInBounds_toArray, List.set_cons_zero, List.set_cons_succ])
      refine wpAnyH_ready (rs := [1, 8]) (by kernel_rfl) (by simp) ?_
      refine AllReadyH.cons (o := { dst := some 18, op := Op.load 27 (Operand.tmp 17), type := 27, pos := "ref.go:50", after := #[{ on := 0, ground := Ground.data }], guard := none }) rfl (fun K hK => ?_) (AllReadyH.cons (o := { dst := some 25, op := Op.buildSlice 27 1 #[(0, Operand.tmp 24)], type := 27, pos := "ref.go:50", after := #[{ on := 7, ground := Ground.data }], guard := none }) rfl (fun K hK => ?_) AllReadyH.nil)
      go_simp
      refine hK.out _ _ (CS.out _ nc) (fun hHeld => ?_)
      clear hK K
      (try simp only [Act.put, List.setIfInBounds_toArray, List.set_cons_zero, List.set_cons_succ])
      refine wpAnyH_ready (rs := [8]) (by kernel_rfl) (by simp) ?_
      refine AllReadyH.cons (o := { dst := some 25, op := Op.buildSlice 27 1 #[(0, Operand.tmp 24)], type := 27, pos := "ref.go:50", after := #[{ on := 7, ground := Ground.data }], guard := none }) rfl (fun K hK => ?_) AllReadyH.nil
      go_simp
      have jx := (Below.refl wr.drew.heap.size wr.drew).alloc (Nat.le_refl _) (.cells #[.int .i64 (k : Nat), .int .i64 u0, .int .i64 u1, .int .i64 u2, .int .i64 u3] 63)
      replace nc := nc.trans (jx.mono nc.size)
      clear jx
      refine hK.out _ _ (CS.out _ nc) (fun hHeld => ?_)
      clear hK K
      (try simp only [Act.put, List.setIfInBounds_toArray, List.set_cons_zero, List.set_cons_succ])
      rotate_left
      go_simp
      have jx := (Below.refl wr.drew.heap.size wr.drew).alloc (Nat.le_refl _) (.cells #[.int .i64 (k : Nat), .int .i64 u0, .int .i64 u1, .int .i64 u2, .int .i64 u3] 63)
      replace nc := nc.trans (jx.mono nc.size)
      clear jx
      refine hK.out _ _ (CS.out _ nc) (fun hHeld => ?_)
      clear hK K
      (try simp only [Act.put, List.setIfInBounds_toArray, List.set_cons_zero, List.set_cons_succ])
      refine wpAnyH_ready (rs := [1]) (by kernel_rfl) (by simp) ?_
      refine AllReadyH.cons (o := { dst := some 18, op := Op.load 27 (Operand.tmp 17), type := 27, pos := "ref.go:50", after := #[{ on := 0, ground := Ground.data }], guard := none }) rfl (fun K hK => ?_) AllReadyH.nil
      go_simp
      refine hK.out _ _ (CS.out _ nc) (fun hHeld => ?_)
      clear hK K
      (try simp only [Act.put, List.setIfInBounds_toArray, List.set_cons_zero, List.set_cons_succ])
      rotate_left
      all_goals
        refine wpAnyH_ready (rs := [9]) (by kernel_rfl) (by simp) ?_
        refine AllReadyH.cons (o := { dst := some 26, op := Op.call { callee := Callee.builtin Builtin.append, args := #[Operand.tmp 18, Operand.tmp 25], argTypes := #[27, 27] }, type := 27, pos := "ref.go:50", after := #[{ on := 1, ground := Ground.data }, { on := 8, ground := Ground.data }], guard := none }) rfl (fun K hK => ?_) AllReadyH.nil
        refine step_append_s _ (by rfl) _ _ _ (by rfl) w.heap.size 63 i0 _ 5 40 Try.underlying27 hi hz0 hz1 hz2 rfl (by decide) v k (flatS rowC rs) rfl (HOW.out.alloc _) ⟨wr.heap.size, 0, none⟩ 1 1 (rowC ((k : Int), u0, u1, u2, u3)) rfl rfl (newR_cells wr.drew ((k : Int), u0, u1, u2, u3) _) (rowC_one _) (by omega) (by unfold maxLen; omega) (by omega) (by have := HM.out; simp; omega) ?_
        intro g9 cap9 w9 O9 G9
        obtain ⟨hm9, hp9, I9⟩ := HI.out.grown HLL.out ((k : Int), u0, u1, u2, u3) hl G9 O9
        have c9 : w9.cell? ⟨m, 2, none⟩ = some v := by rw [cell_of_row _ _ _ _ _ _ hm9]; rfl
        have f9 := sh_frozen hm9 2
        have H9 := Lib.hid (HQ.out _ (hp9 _ HLT.out))
        have HI9 := Lib.hid I9
        clear hm9 hp9 I9 O9 G9
        refine hK.out _ _ (ent_of_range _ _ _ _ H9.out) (fun hHeld => ?_)
        clear hK K
        (try simp only [Act.put, List.setIfInBounds_toArray, List.set_cons_zero, List.set_cons_succ])
        refine wpAnyH_take (i := 10) (oi := { dst := some 27, op := Op.fieldAddr 29 (Operand.tmp 4) 2, type := 0, pos := "ref.go:50", after := #[{ on := 0, ground := Ground.phase }, { on := 1, ground := Ground.phase }, { on := 2, ground := Ground.phase }, { on := 3, ground := Ground.phase }, { on := 4, ground := Ground.phase }, { on := 5, ground := Ground.phase }, { on := 6, ground := Ground.phase }, { on := 7, ground := Ground.phase }, { on := 8, ground := Ground.phase }, { on := 9, ground := Ground.phase }], guard := none }) (v := ?_) rfl (by kernel_rfl) (by kernel_rfl) (by kernel_rfl) (fun _ _ _ h => h) (Or.inl ⟨by rfl, ?_⟩) (by assumption) ?_
        rotate_left
        · intro w hSw
          (try dsimp only at hSw)
          first | (go_simp; done) | (go_simp; with_reducible rfl)
        (try simp only [Act.put, List.setIfInBounds_toArray, List.set_cons_zero, List.set_cons_succ])
        refine wpAnyH_ready (rs := [11]) (by kernel_rfl) (by simp) ?_
        refine AllReadyH.cons (o := { dst := none, op := Op.store 27 (Operand.tmp 27) (Operand.tmp 26), type := 0, pos := "ref.go:50", after := #[{ on := 10, ground := Ground.data }, { on := 9, ground := Ground.data }, { on := 9, ground := Ground.chain }, { on := 0, ground := Ground.phase }, { on := 1, ground := Ground.phase }, { on := 2, ground := Ground.phase }, { on := 3, ground := Ground.phase }, { on := 4, ground := Ground.phase }, { on := 5, ground := Ground.phase }, { on := 6, ground := Ground.phase }, { on := 7, ground := Ground.phase }, { on := 8, ground := Ground.phase }, { on := 9, ground := Ground.phase }], guard := none }) rfl (fun K hK => ?_) AllReadyH.nil
        go_simp
        refine hK.out _ _ (ent_of_range _ _ _ _ (HQ.out _ (HI9.out.st _ HLT.out))) (fun hHeld => ?_)
        clear hK K
        (try simp only [Act.put, List.setIfInBounds_toArray, List.set_cons_zero, List.set_cons_succ])
        refine wpAnyH_done (by kernel_rfl) ?_ _
        rw [HS.out] at HI9
        clear c9 f9
        go_wp2
        go_roundw
        case rel => exact ⟨k + 1, by omega, by go_num, _, HI9.out⟩
        case measure => simp [intOf]; omega
    · obtain rfl : k = 16 := by omega
      rw [show (allS T).take 16 = allS T from List.take_of_length_le (by rw [allS_len]; exact Nat.le_refl _)] at hI
      obtain ⟨A, c, rfl, -, -, -⟩ := ownS_slice hI.ow
      have hr := hI.st _ HLR.out
      obtain ⟨y0, y1, y2⟩ := sh_cells _ _ _ _ _ hr
      have f0 := sh_frozen hr 0
      have f1 := sh_frozen hr 1
      have f3 := sh_frozen hr 2
      obtain ⟨x0, x1, x2⟩ := sh_cells _ _ _ _ _ hI.sb
      have HR := Lib.hid (full_setCells hr [.int .i64 (-1), .int .i64 (T 0), .slice A (allS T).length c] rfl)
      have HO := Lib.hid (ownS_apart (t := 29) (e := 63) (by decide) [.int .i64 (-1), .int .i64 (T 0), .slice A (allS T).length c] 0 _ _ hI.ow hr)
      have HB := Lib.hid (below_setCells (w.heap.size + 1) (by omega) [.int .i64 (-1), .int .i64 (T 0), .slice A (allS T).length c] 0 w _ hI.lo)
      clear hI hr
      go_wp2
      refine bodyPost_ret (results_sh2 rfl _ _ (w.heap.size + 1) _ (0, 0) rfl HR.out rfl) rfl ?_
      rw [HF.out]
      exact ⟨_, rfl, HO.out, HB.out⟩
end Go.Proofs.Ythgoopdekllanaa
