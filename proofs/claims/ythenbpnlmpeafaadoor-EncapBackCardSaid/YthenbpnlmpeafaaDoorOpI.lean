/- Package option: the numbers come with their limits by a range over a function: what the iterator hands out. -/
import Derived.Test.YthenbpnlmpeafaaDoorOpE
import Derived.Test.YthenbpnlmpeafaaDoorRangeOkD
import Derived.Sort.QuietIn
namespace Go.Proofs.YthenbpnlmpeafaaDoor
open Go.RowKit Go.Shelf
open SumM

set_option maxHeartbeats 1000000 in
theorem withLimits_in (n : Nat) (B : Nat) (w : World) :
    CallsIn Fence.wide n Tryd.prog 66 #[.pointer (some ⟨B, 0, none⟩)] w fun e w' => e = .returned (.func (.func 74) #[] #[.pointer (some ⟨w.heap.size, 0, none⟩)]) ∧ w' = w.alloc (.cells #[.pointer (some ⟨B, 0, none⟩)] 111) := by
  refine callsIn_of_wp Tryd.func66 rfl trivial ?_ rfl
  simp only [Tryd.ntmps66, List.size_toArray, List.length_cons, List.length_nil, Nat.reduceAdd, Nat.reduceSub, Array.replicate_succ, Array.replicate_zero, List.push_toArray, List.append_toArray, List.nil_append, List.cons_append]
  gi_wp2
  go_ret
  exact ⟨rfl, rfl⟩

/-- A number's limits: the least, the most, how many bytes. -/
def nlo (k : Nat) : Int := match k with | 0 => 1 | 1 => 0 | 2 => -1 | 3 => -1 | _ => 0
def nhi (k : Nat) : Int := match k with | 0 => 5 | 1 => 15 | 2 => 5 | 3 => 5 | 4 => 2147483647 | _ => 1099511627776
def nwd (k : Nat) : Int := match k with | 0 => 1 | 1 => 1 | 2 => 1 | 3 => 1 | 4 => 4 | _ => 6
def limOf (k : Nat) : Array Value := #[.int .i64 (nlo k), .int .i64 (nhi k), .int .i64 (nwd k)]
/-- What is handed out: where the number lies, its limits. -/
def onumAt (B k : Nat) : Array Value := #[.pointer (some ⟨B, k, none⟩), .agg (limOf k)]
/-- What is kept in a round: the box of the numbers' place, and what lies from n0 on. -/
def KeepL (nb n0 : Nat) (V V' : World) : Prop := V.heap.size ≤ V'.heap.size ∧ ∀ k o, (k = nb ∨ n0 ≤ k) → V.heap[k]? = some o → o.isCells = true → V'.heap[k]? = some o
theorem KeepL.refl (nb n0 : Nat) (V : World) : KeepL nb n0 V V := ⟨Nat.le_refl _, fun _ _ _ h _ => h⟩
theorem KeepL.trans {nb n0 : Nat} {A B C : World} (h : KeepL nb n0 A B) (k : KeepL nb n0 B C) : KeepL nb n0 A C := ⟨Nat.le_trans h.1 k.1, fun i o hi h0 hc => k.2 i o hi (h.2 i o hi h0 hc) hc⟩
theorem KeepL.alloc (nb n0 : Nat) (W : World) (o : Obj) : KeepL nb n0 W (W.alloc o) := ⟨by simp, fun _ _ _ h _ => (Below.heap_alloc _ _ _ (Array.getElem?_eq_some_iff.1 h).1).trans h⟩
theorem KeepL.putObj (nb n0 : Nat) (W : World) {l : Nat} {o : Obj} (o' : Obj) (hl : W.heap[l]? = some o) (hc : o.isCells = false) : KeepL nb n0 W (W.putObj l o') :=
  ⟨by simp [World.putObj], fun k o2 _ h hc2 => (World.putObj_heap_other (by intro e; subst e; rw [h] at hl; cases hl; rw [hc] at hc2; cases hc2)).trans h⟩
theorem KeepL.drewN (nb n0 : Nat) (W : World) (m : Nat) : KeepL nb n0 W (W.drewN m) := ⟨Nat.le_refl _, fun _ _ _ h _ => h⟩
theorem KeepL.setCell (nb n0 : Nat) (W : World) (a : Addr) (v : Value) (h1 : a.block ≠ nb) (h2 : a.block < n0) : KeepL nb n0 W (W.setCell a v) :=
  ⟨by rw [World.size_setCell]; exact Nat.le_refl _, fun k o hk h _ => (Below.heap_setCell W a v k (by rcases hk with rfl | hk <;> omega)).trans h⟩
/-- The iterator's own blocks. -/
structure Lims (nb B c : Nat) (V : World) : Prop where
  bx : V.heap[nb]? = some (.cells #[.pointer (some ⟨B, 0, none⟩)] 111 (0, 0))
  k0 : V.heap[c]? = some (.cells #[.int .i64 1, .int .i64 5, .int .i64 1] 105 (0, 0))
  k1 : V.heap[c + 1]? = some (.cells #[.int .i64 0, .int .i64 15, .int .i64 1] 105 (0, 0))
  k2 : V.heap[c + 1 + 1]? = some (.cells #[.int .i64 (-1), .int .i64 5, .int .i64 1] 105 (0, 0))
  k3 : V.heap[c + 1 + 1 + 1]? = some (.cells #[.int .i64 0, .int .i64 2147483647, .int .i64 4] 105 (0, 0))
  k4 : V.heap[c + 1 + 1 + 1 + 1]? = some (.cells #[.int .i64 0, .int .i64 1099511627776, .int .i64 6] 105 (0, 0))
theorem Lims.keep {nb B c n0 : Nat} {V V' : World} (h : Lims nb B c V) (hc : n0 ≤ c) (k : KeepL nb n0 V V') : Lims nb B c V' :=
  ⟨k.2 _ _ (.inl rfl) h.bx rfl, k.2 _ _ (.inr (by omega)) h.k0 rfl, k.2 _ _ (.inr (by omega)) h.k1 rfl, k.2 _ _ (.inr (by omega)) h.k2 rfl, k.2 _ _ (.inr (by omega)) h.k3 rfl, k.2 _ _ (.inr (by omega)) h.k4 rfl⟩
theorem Lims.drew {nb B c : Nat} {V : World} (h : Lims nb B c V) : Lims nb B c V.drew := ⟨h.bx, h.k0, h.k1, h.k2, h.k3, h.k4⟩
theorem lim_cells {w : World} {b : Nat} {x y z : Int} (h : w.heap[b]? = some (.cells #[.int .i64 x, .int .i64 y, .int .i64 z] 105 (0, 0))) :
    w.cell? ⟨b, 0, none⟩ = some (.int .i64 x) ∧ w.cell? ⟨b, 1, none⟩ = some (.int .i64 y) ∧ w.cell? ⟨b, 2, none⟩ = some (.int .i64 z) := by
  refine ⟨?_, ?_, ?_⟩ <;> (rw [cell_of_row _ _ _ _ _ _ h]; rfl)
theorem ptr_cell {w : World} {b : Nat} {v : Value} {t : TypeId} (h : w.heap[b]? = some (.cells #[v] t (0, 0))) : w.cell? ⟨b, 0, none⟩ = some v := by rw [cell_of_row _ _ _ _ _ _ h]; rfl
/-- What a world behind is like, found once, is shared by all ways that lead there. -/
theorem shareW {S F : World → Prop} {G : Prop} (a : (∀ W, F W → S W) → G) (b : ∀ W, F W → S W) : G := a b
section
variable {F : Fence} {n : Nat} {P : Program} {ops : Array Oper} {Q : Exit → Act → World → Prop} {md : Region.Mode}
/-- An operation that is not wanted, taken first. -/
theorem takeU {i : Nat} {oi : Oper} {d : Option Tmp} {fuel : Nat} {listed : Array Bool} {a : Act} {w : World} (hro : F.round = none) (hi : ops[i]? = some oi) (hd : oi.dst = d)
    (hs : Region.noSelect ops = true) (hf : Region.free md ops listed i = true) (hr : (Region.ready md ops listed).contains i = true)
    (hQ : ∀ c a w, Q (.panic c) (a.put oi.dst undef) w → Q (.panic c) a w) (hw : Region.wanted oi (yielded ops a.tmps) = false) (ha : ∀ w, oi.about P w a.eval = none)
    (h : wpAnyIn F n P md ops Q fuel (listed.setIfInBounds i true) (a.put d undef) w) : wpAnyIn F n P md ops Q (fuel + 1) listed a w := by
  subst hd
  exact wpAnyIn_take (v := undef) hro hi hs hf hr hQ ⟨.inr ⟨hw, rfl⟩, ha⟩ h
/-- One that yields whatever the world. -/
theorem takeV {i : Nat} {oi : Oper} {d : Option Tmp} {v : Value} {fuel : Nat} {listed : Array Bool} {a : Act} {w : World} (hro : F.round = none) (hi : ops[i]? = some oi) (hd : oi.dst = d)
    (hs : Region.noSelect ops = true) (hf : Region.free md ops listed i = true) (hr : (Region.ready md ops listed).contains i = true)
    (hQ : ∀ c a w, Q (.panic c) (a.put oi.dst v) w → Q (.panic c) a w) (hw : Region.wanted oi (yielded ops a.tmps) = true) (hv : ∀ w, (execOp a.eval oi).run P w = .ok (.value v) w) (ha : ∀ w, oi.about P w a.eval = none)
    (h : wpAnyIn F n P md ops Q fuel (listed.setIfInBounds i true) (a.put d v) w) : wpAnyIn F n P md ops Q (fuel + 1) listed a w := by
  subst hd
  exact wpAnyIn_take hro hi hs hf hr hQ ⟨.inl ⟨hw, hv⟩, ha⟩ h
end
section
variable {F : Fence} {n : Nat} {P : Program} {ops : Array Oper} {md : Region.Mode}
/-- A region that draws, in a round's fence: as outside. -/
theorem any_inRound {Q : Exit → Act → World → Prop} (lp : Nat) (hro : F.round = none) (hnd : ∀ (i : Nat) (o : Oper), ops[i]? = some o → ∀ c, o.op ≠ .defer c) :
    ∀ (fuel : Nat) (listed : Array Bool) (a : Act) (w : World), wpAnyIn F n P md ops Q fuel listed a w → wpAnyIn (F.inRound lp) n P md ops Q fuel listed a w
  | 0, _, _, _, h => h
  | fuel + 1, listed, a, w, h => by
    refine ⟨h.1, fun i hi => ?_⟩
    have h2 := wpOpIn_mono (K' := wpAnyIn (F.inRound lp) n P md ops Q fuel (listed.setIfInBounds i true)) (fun a w => any_inRound lp hro hnd fuel _ a w) (h.2 i hi)
    unfold wpOpIn at h2 ⊢
    cases ho : ops[i]? with
    | none => simpa [ho] using h2
    | some o =>
      simp only [ho] at h2 ⊢
      split
      · rename_i hw
        rw [if_pos hw] at h2
        unfold Oper.wpIn at h2 ⊢
        rw [hro, Oper.semAt_none] at h2
        rw [Fence.inRound_round, Oper.semAt_some _ _ _ (hnd i o ho)]
        exact h2
      · rename_i hw
        rw [if_neg hw] at h2
        exact h2
def noDefers (l : List Oper) : Bool := l.all fun o => match o.op with | .defer _ => false | _ => true
theorem noDefers_spec {l : List Oper} (h : noDefers l = true) (i : Nat) (o : Oper) (ho : l.toArray[i]? = some o) (c : Call) : o.op ≠ .defer c := by
  intro e
  have hm : o ∈ l := by
    have := Array.mem_of_getElem? ho
    simpa using this
  have := List.all_eq_true.1 h o hm
  rw [e] at this
  cases this
theorem region_any_inRound {id : Nat} {Q : Exit → Act → World → Prop} {a : Act} {w : World} {l : List Oper} (lp : Nat) (hro : F.round = none) (hm : P.follows .mixedOrders = true) (hnd : noDefers l = true)
    (h : wpAnyIn F n P .any l.toArray Q l.toArray.size (Array.replicate l.toArray.size false) a { w with drawn := w.drawn + 1 }) : (Code.region id l.toArray true).wpIn (F.inRound lp) n P Q a w :=
  wpIn_region_any hm (any_inRound lp hro (noDefers_spec hnd) _ _ _ _ h)
theorem region_quiet_inRound {id : Nat} {Q : Exit → Act → World → Prop} {a : Act} {w : World} {l : List Oper} (lp : Nat) (hro : F.round = none) (hm : P.follows .mixedOrders = true) (hB : Region.lexB .any l.toArray = true) (hnd : noDefers l = true)
    (h : wpQuietIn F n P l.toArray (fun w' => ∃ n, w' = w.drewN n) (fun a' => ∀ w', (∃ n, w' = w.drewN n) → Q .normal a' w') l a) : (Code.region id l.toArray true).wpIn (F.inRound lp) n P Q a w := by
  simp only [Region.lexB, Bool.and_eq_true] at hB
  refine region_any_inRound lp hro hm hnd (wpAnyIn_of_quiet (Q := fun a' => ∀ w', (∃ n, w' = w.drewN n) → Q .normal a' w') (C := fun w' => ∃ n, w' = w.drewN n) hro (fun _ w' hw' h => h w' hw') _ _ _ _ ⟨1, rfl⟩ ?_)
  have := wpAnyQIn_lex (F := F) (n := n) (C := fun w' => ∃ n, w' = w.drewN n) (md := .any) hB.1 l 0 (Array.replicate l.toArray.size false) a (by simp) (by simpa using hB.2) (by simpa using h)
  simpa using this
end
theorem blkN {W : World} {k : Nat} {o : Obj} (h : W.heap[k]? = some o) (o' : Obj) : (W.alloc o').heap[k]? = some o :=
  (Below.heap_alloc _ _ _ (Array.getElem?_eq_some_iff.1 h).1).trans h
theorem newN (W : World) (o : Obj) (m : Nat) (h : W.heap.size = m) : (W.alloc o).heap[m]? = some o := by subst h; exact World.alloc_heap_new W o

set_option maxRecDepth 100000 in
set_option maxHeartbeats 8000000 in
theorem lims_in (n : Nat) (hn : 1 ≤ n) (l nb B n0 : Nat) (W : World) (hW : n0 ≤ W.heap.size) (J Jx : List Nat → World → Prop) (hb : W.heap[nb]? = some (.cells #[.pointer (some ⟨B, 0, none⟩)] 111 (0, 0)))
    (hN : ∀ pre V o, J pre V → J pre (V.alloc o)) (hD : ∀ pre V, J pre V → J pre V.drew)
    (hY : ∀ pre x V, J pre V → (x = pre.length ∧ x < 6) → YieldAt Fence.wide (n - 1) Tryd.prog l (onumAt B x) V fun e V' => (e = .returned (.bool true) ∧ J (pre ++ [x]) V' ∧ KeepL nb n0 V V') ∨ (e = .returned (.bool false) ∧ Jx (pre ++ [x]) V'))
    (h0 : J [] W) :
    CallsIn Fence.wide n Tryd.prog 74 #[.func (.yield l) #[] #[], .pointer (some ⟨nb, 0, none⟩)] W fun e W' => (∃ v, e = .returned v) ∧
      ((∃ xs, xs = [0, 1, 2, 3, 4, 5] ∧ J xs W') ∨ (∃ pre, True ∧ Jx pre W')) := by
  refine callsIn_of_wp Tryd.func74 rfl trivial ?_ rfl
  simp only [Tryd.ntmps74, List.size_toArray, List.length_cons, List.length_nil, Nat.reduceAdd, Nat.reduceSub, Array.replicate_succ, Array.replicate_zero, List.push_toArray, List.append_toArray, List.nil_append, List.cons_append]
  have hJ5 : J [] (((((W.alloc (.cells #[.int .i64 1, .int .i64 5, .int .i64 1] 105)).alloc (.cells #[.int .i64 0, .int .i64 15, .int .i64 1] 105)).alloc (.cells #[.int .i64 (-1), .int .i64 5, .int .i64 1] 105)).alloc (.cells #[.int .i64 0, .int .i64 2147483647, .int .i64 4] 105)).alloc (.cells #[.int .i64 0, .int .i64 1099511627776, .int .i64 6] 105)).drew := hD _ _ (hN _ _ _ (hN _ _ _ (hN _ _ _ (hN _ _ _ (hN _ _ _ h0)))))
  have HY := Lib.hid hY
  have HD := Lib.hid hD
  have HL : Lims nb B W.heap.size (((((W.alloc (.cells #[.int .i64 1, .int .i64 5, .int .i64 1] 105)).alloc (.cells #[.int .i64 0, .int .i64 15, .int .i64 1] 105)).alloc (.cells #[.int .i64 (-1), .int .i64 5, .int .i64 1] 105)).alloc (.cells #[.int .i64 0, .int .i64 2147483647, .int .i64 4] 105)).alloc (.cells #[.int .i64 0, .int .i64 1099511627776, .int .i64 6] 105)).drew :=
    ⟨blkN (blkN (blkN (blkN (blkN hb _) _) _) _) _, blkN (blkN (blkN (blkN (newN W _ _ rfl) _) _) _) _, blkN (blkN (blkN (newN _ _ _ (by simp)) _) _) _, blkN (blkN (newN _ _ _ (by simp)) _) _, blkN (newN _ _ _ (by simp)) _, newN _ _ _ (by simp)⟩
  clear hY hD hN h0 hb
  gi_wp2_with fail
  refine wpIn_region_any (by kernel_rfl) ?_
  try (change wpAnyIn _ _ _ _ _ _ _ _ _ (World.drew _))
  generalize (((((W.alloc (.cells #[.int .i64 1, .int .i64 5, .int .i64 1] 105)).alloc (.cells #[.int .i64 0, .int .i64 15, .int .i64 1] 105)).alloc (.cells #[.int .i64 (-1), .int .i64 5, .int .i64 1] 105)).alloc (.cells #[.int .i64 0, .int .i64 2147483647, .int .i64 4] 105)).alloc (.cells #[.int .i64 0, .int .i64 1099511627776, .int .i64 6] 105)).drew = V at *
  generalize W.heap.size = c at *
  generalize V = V0 at *
  have J0 := hJ5
  have HL0 := HL
  clear hJ5 HL
  -- stage 0
  obtain ⟨fn0, tmps0, assign0, body0, hy0, hr0⟩ := HY.out [] 0 V0 J0 ⟨rfl, by omega⟩
  have y0 : (Instr.yield l #[.pointer (some ⟨B, 0, none⟩), .agg #[.int .i64 1, .int .i64 5, .int .i64 1]]).run Tryd.prog V0 = .ok (.round l fn0 tmps0 assign0 body0) V0 := hy0
  have cp := ptr_cell HL0.bx
  obtain ⟨ca, cb, cc⟩ := lim_cells HL0.k0
  clear hy0
  refine takeV (i := 0) (d := some 13) rfl rfl rfl (by kernel_rfl) (by kernel_rfl) (by kernel_rfl) (fun _ _ _ h => h) (by kernel_rfl) (by intro w; go_simp; try with_reducible rfl) (fun _ => rfl) ?_
  refine wpAnyIn_ready (rs := [1, 4]) (by kernel_rfl) (by simp) ?_
  apply shareW (F := fun V' => V0 = V')
  · intro h1
    refine AllReadyIn.cons rfl (fun K hK => ?_) (AllReadyIn.cons rfl (fun K hK => ?_) AllReadyIn.nil)
    · go_simp
      refine hK _ _ ?_
      clear hK K
      refine takeV (i := 2) (d := some 15) rfl rfl rfl (by kernel_rfl) (by kernel_rfl) (by kernel_rfl) (fun _ _ _ h => h) (by kernel_rfl) (by intro w; go_simp; try with_reducible rfl) (fun _ => rfl) ?_
      refine takeV (i := 3) (d := some 16) rfl rfl rfl (by kernel_rfl) (by kernel_rfl) (by kernel_rfl) (fun _ _ _ h => h) (by kernel_rfl) (by intro w; go_simp; try with_reducible rfl) (fun _ => rfl) ?_
      refine wpAnyIn_ready (rs := [4]) (by kernel_rfl) (by simp) ?_
      refine AllReadyIn.cons rfl (fun K hK => ?_) AllReadyIn.nil
      go_simp
      refine hK _ _ ?_
      clear hK K
      exact h1 _ rfl
    · go_simp
      refine hK _ _ ?_
      clear hK K
      refine wpAnyIn_ready (rs := [1]) (by kernel_rfl) (by simp) ?_
      refine AllReadyIn.cons rfl (fun K hK => ?_) AllReadyIn.nil
      go_simp
      refine hK _ _ ?_
      clear hK K
      refine takeV (i := 2) (d := some 15) rfl rfl rfl (by kernel_rfl) (by kernel_rfl) (by kernel_rfl) (fun _ _ _ h => h) (by kernel_rfl) (by intro w; go_simp; try with_reducible rfl) (fun _ => rfl) ?_
      refine takeV (i := 3) (d := some 16) rfl rfl rfl (by kernel_rfl) (by kernel_rfl) (by kernel_rfl) (fun _ _ _ h => h) (by kernel_rfl) (by intro w; go_simp; try with_reducible rfl) (fun _ => rfl) ?_
      exact h1 _ rfl
  intro V' e1
  subst e1
  clear cp ca cb cc
  refine wpAnyIn_ready (rs := [5]) (by kernel_rfl) (by simp) ?_
  refine AllReadyIn.cons rfl (fun K hK => ?_) AllReadyIn.nil
  go_simp
  refine hr0.mono ?_
  clear hr0 y0
  rintro e V1 (⟨rfl, J1, k1⟩ | ⟨rfl, Jx⟩)
  rotate_left
  · refine hK _ _ ?_
    clear hK K
    refine takeV (i := 6) (d := some 19) rfl rfl rfl (by kernel_rfl) (by kernel_rfl) (by kernel_rfl) (fun _ _ _ h => h) (by kernel_rfl) (by intro w; go_simp; try with_reducible rfl) (fun _ => rfl) ?_
    refine takeU (i := 7) (d := some 20) rfl rfl rfl (by kernel_rfl) (by kernel_rfl) (by kernel_rfl) (fun _ _ _ h => h) (by kernel_rfl) (fun _ => by kernel_rfl) ?_
    refine takeU (i := 8) (d := some 21) rfl rfl rfl (by kernel_rfl) (by kernel_rfl) (by kernel_rfl) (fun _ _ _ h => h) (by kernel_rfl) (fun _ => by kernel_rfl) ?_
    refine takeU (i := 9) (d := some 22) rfl rfl rfl (by kernel_rfl) (by kernel_rfl) (by kernel_rfl) (fun _ _ _ h => h) (by kernel_rfl) (fun _ => by kernel_rfl) ?_
    refine takeU (i := 10) (d := some 23) rfl rfl rfl (by kernel_rfl) (by kernel_rfl) (by kernel_rfl) (fun _ _ _ h => h) (by kernel_rfl) (fun _ => by kernel_rfl) ?_
    refine takeU (i := 11) (d := some 24) rfl rfl rfl (by kernel_rfl) (by kernel_rfl) (by kernel_rfl) (fun _ _ _ h => h) (by kernel_rfl) (fun _ => by kernel_rfl) ?_
    refine takeU (i := 12) (d := some 25) rfl rfl rfl (by kernel_rfl) (by kernel_rfl) (by kernel_rfl) (fun _ _ _ h => h) (by kernel_rfl) (fun _ => by kernel_rfl) ?_
    refine takeV (i := 13) (d := some 26) rfl rfl rfl (by kernel_rfl) (by kernel_rfl) (by kernel_rfl) (fun _ _ _ h => h) (by kernel_rfl) (by intro w; go_simp; try with_reducible rfl) (fun _ => rfl) ?_
    refine takeV (i := 14) (d := some 27) rfl rfl rfl (by kernel_rfl) (by kernel_rfl) (by kernel_rfl) (fun _ _ _ h => h) (by kernel_rfl) (by intro w; go_simp; try with_reducible rfl) (fun _ => rfl) ?_
    refine takeU (i := 15) (d := some 28) rfl rfl rfl (by kernel_rfl) (by kernel_rfl) (by kernel_rfl) (fun _ _ _ h => h) (by kernel_rfl) (fun _ => by kernel_rfl) ?_
    refine takeU (i := 16) (d := some 29) rfl rfl rfl (by kernel_rfl) (by kernel_rfl) (by kernel_rfl) (fun _ _ _ h => h) (by kernel_rfl) (fun _ => by kernel_rfl) ?_
    refine takeU (i := 17) (d := some 30) rfl rfl rfl (by kernel_rfl) (by kernel_rfl) (by kernel_rfl) (fun _ _ _ h => h) (by kernel_rfl) (fun _ => by kernel_rfl) ?_
    refine takeU (i := 18) (d := some 31) rfl rfl rfl (by kernel_rfl) (by kernel_rfl) (by kernel_rfl) (fun _ _ _ h => h) (by kernel_rfl) (fun _ => by kernel_rfl) ?_
    refine takeU (i := 19) (d := some 32) rfl rfl rfl (by kernel_rfl) (by kernel_rfl) (by kernel_rfl) (fun _ _ _ h => h) (by kernel_rfl) (fun _ => by kernel_rfl) ?_
    refine takeU (i := 20) (d := some 33) rfl rfl rfl (by kernel_rfl) (by kernel_rfl) (by kernel_rfl) (fun _ _ _ h => h) (by kernel_rfl) (fun _ => by kernel_rfl) ?_
    refine takeU (i := 21) (d := some 34) rfl rfl rfl (by kernel_rfl) (by kernel_rfl) (by kernel_rfl) (fun _ _ _ h => h) (by kernel_rfl) (fun _ => by kernel_rfl) ?_
    refine takeV (i := 22) (d := some 35) rfl rfl rfl (by kernel_rfl) (by kernel_rfl) (by kernel_rfl) (fun _ _ _ h => h) (by kernel_rfl) (by intro w; go_simp; try with_reducible rfl) (fun _ => rfl) ?_
    refine takeV (i := 23) (d := some 36) rfl rfl rfl (by kernel_rfl) (by kernel_rfl) (by kernel_rfl) (fun _ _ _ h => h) (by kernel_rfl) (by intro w; go_simp; try with_reducible rfl) (fun _ => rfl) ?_
    refine takeU (i := 24) (d := some 37) rfl rfl rfl (by kernel_rfl) (by kernel_rfl) (by kernel_rfl) (fun _ _ _ h => h) (by kernel_rfl) (fun _ => by kernel_rfl) ?_
    refine takeU (i := 25) (d := some 38) rfl rfl rfl (by kernel_rfl) (by kernel_rfl) (by kernel_rfl) (fun _ _ _ h => h) (by kernel_rfl) (fun _ => by kernel_rfl) ?_
    refine takeU (i := 26) (d := some 39) rfl rfl rfl (by kernel_rfl) (by kernel_rfl) (by kernel_rfl) (fun _ _ _ h => h) (by kernel_rfl) (fun _ => by kernel_rfl) ?_
    refine takeU (i := 27) (d := some 40) rfl rfl rfl (by kernel_rfl) (by kernel_rfl) (by kernel_rfl) (fun _ _ _ h => h) (by kernel_rfl) (fun _ => by kernel_rfl) ?_
    refine takeU (i := 28) (d := some 41) rfl rfl rfl (by kernel_rfl) (by kernel_rfl) (by kernel_rfl) (fun _ _ _ h => h) (by kernel_rfl) (fun _ => by kernel_rfl) ?_
    refine takeU (i := 29) (d := some 42) rfl rfl rfl (by kernel_rfl) (by kernel_rfl) (by kernel_rfl) (fun _ _ _ h => h) (by kernel_rfl) (fun _ => by kernel_rfl) ?_
    refine takeU (i := 30) (d := some 43) rfl rfl rfl (by kernel_rfl) (by kernel_rfl) (by kernel_rfl) (fun _ _ _ h => h) (by kernel_rfl) (fun _ => by kernel_rfl) ?_
    refine takeV (i := 31) (d := some 44) rfl rfl rfl (by kernel_rfl) (by kernel_rfl) (by kernel_rfl) (fun _ _ _ h => h) (by kernel_rfl) (by intro w; go_simp; try with_reducible rfl) (fun _ => rfl) ?_
    refine takeV (i := 32) (d := some 45) rfl rfl rfl (by kernel_rfl) (by kernel_rfl) (by kernel_rfl) (fun _ _ _ h => h) (by kernel_rfl) (by intro w; go_simp; try with_reducible rfl) (fun _ => rfl) ?_
    refine takeU (i := 33) (d := some 46) rfl rfl rfl (by kernel_rfl) (by kernel_rfl) (by kernel_rfl) (fun _ _ _ h => h) (by kernel_rfl) (fun _ => by kernel_rfl) ?_
    refine takeU (i := 34) (d := some 47) rfl rfl rfl (by kernel_rfl) (by kernel_rfl) (by kernel_rfl) (fun _ _ _ h => h) (by kernel_rfl) (fun _ => by kernel_rfl) ?_
    refine takeU (i := 35) (d := some 48) rfl rfl rfl (by kernel_rfl) (by kernel_rfl) (by kernel_rfl) (fun _ _ _ h => h) (by kernel_rfl) (fun _ => by kernel_rfl) ?_
    refine takeU (i := 36) (d := some 49) rfl rfl rfl (by kernel_rfl) (by kernel_rfl) (by kernel_rfl) (fun _ _ _ h => h) (by kernel_rfl) (fun _ => by kernel_rfl) ?_
    refine takeU (i := 37) (d := some 50) rfl rfl rfl (by kernel_rfl) (by kernel_rfl) (by kernel_rfl) (fun _ _ _ h => h) (by kernel_rfl) (fun _ => by kernel_rfl) ?_
    refine takeU (i := 38) (d := some 51) rfl rfl rfl (by kernel_rfl) (by kernel_rfl) (by kernel_rfl) (fun _ _ _ h => h) (by kernel_rfl) (fun _ => by kernel_rfl) ?_
    refine takeU (i := 39) (d := some 52) rfl rfl rfl (by kernel_rfl) (by kernel_rfl) (by kernel_rfl) (fun _ _ _ h => h) (by kernel_rfl) (fun _ => by kernel_rfl) ?_
    refine takeV (i := 40) (d := some 53) rfl rfl rfl (by kernel_rfl) (by kernel_rfl) (by kernel_rfl) (fun _ _ _ h => h) (by kernel_rfl) (by intro w; go_simp; try with_reducible rfl) (fun _ => rfl) ?_
    refine wpAnyIn_done (by kernel_rfl) ?_ _
    simp only [Exit.then]
    apply_assumption
    exact wpIn_cond_false (by kernel_rfl) (wpIn_skip (bodyPost_end (results_none rfl _ _ _) (by kernel_rfl) ⟨⟨_, rfl⟩, .inr ⟨_, trivial, Jx⟩⟩))
  refine hK _ _ ?_
  clear hK K
  refine takeV (i := 6) (d := some 19) rfl rfl rfl (by kernel_rfl) (by kernel_rfl) (by kernel_rfl) (fun _ _ _ h => h) (by kernel_rfl) (by intro w; go_simp; try with_reducible rfl) (fun _ => rfl) ?_
  have HL1 := HL0.keep hW k1
  clear k1
  -- stage 1
  obtain ⟨fn0, tmps0, assign0, body0, hy0, hr0⟩ := HY.out [0] 1 V1 J1 ⟨rfl, by omega⟩
  have y0 : (Instr.yield l #[.pointer (some ⟨B, 1, none⟩), .agg #[.int .i64 0, .int .i64 15, .int .i64 1]]).run Tryd.prog V1 = .ok (.round l fn0 tmps0 assign0 body0) V1 := hy0
  have cp := ptr_cell HL1.bx
  obtain ⟨ca, cb, cc⟩ := lim_cells HL1.k1
  clear hy0
  refine takeV (i := 7) (d := some 20) rfl rfl rfl (by kernel_rfl) (by kernel_rfl) (by kernel_rfl) (fun _ _ _ h => h) (by kernel_rfl) (by intro w; go_simp; try with_reducible rfl) (fun _ => rfl) ?_
  refine wpAnyIn_ready (rs := [8, 11]) (by kernel_rfl) (by simp) ?_
  apply shareW (F := fun V' => V1 = V')
  · intro h1
    refine AllReadyIn.cons rfl (fun K hK => ?_) (AllReadyIn.cons rfl (fun K hK => ?_) AllReadyIn.nil)
    · go_simp
      refine hK _ _ ?_
      clear hK K
      refine takeV (i := 9) (d := some 22) rfl rfl rfl (by kernel_rfl) (by kernel_rfl) (by kernel_rfl) (fun _ _ _ h => h) (by kernel_rfl) (by intro w; go_simp; try with_reducible rfl) (fun _ => rfl) ?_
      refine takeV (i := 10) (d := some 23) rfl rfl rfl (by kernel_rfl) (by kernel_rfl) (by kernel_rfl) (fun _ _ _ h => h) (by kernel_rfl) (by intro w; go_simp; try with_reducible rfl) (fun _ => rfl) ?_
      refine wpAnyIn_ready (rs := [11]) (by kernel_rfl) (by simp) ?_
      refine AllReadyIn.cons rfl (fun K hK => ?_) AllReadyIn.nil
      go_simp
      refine hK _ _ ?_
      clear hK K
      exact h1 _ rfl
    · go_simp
      refine hK _ _ ?_
      clear hK K
      refine wpAnyIn_ready (rs := [8]) (by kernel_rfl) (by simp) ?_
      refine AllReadyIn.cons rfl (fun K hK => ?_) AllReadyIn.nil
      go_simp
      refine hK _ _ ?_
      clear hK K
      refine takeV (i := 9) (d := some 22) rfl rfl rfl (by kernel_rfl) (by kernel_rfl) (by kernel_rfl) (fun _ _ _ h => h) (by kernel_rfl) (by intro w; go_simp; try with_reducible rfl) (fun _ => rfl) ?_
      refine takeV (i := 10) (d := some 23) rfl rfl rfl (by kernel_rfl) (by kernel_rfl) (by kernel_rfl) (fun _ _ _ h => h) (by kernel_rfl) (by intro w; go_simp; try with_reducible rfl) (fun _ => rfl) ?_
      exact h1 _ rfl
  intro V' e1
  subst e1
  clear cp ca cb cc
  refine wpAnyIn_ready (rs := [12]) (by kernel_rfl) (by simp) ?_
  refine AllReadyIn.cons rfl (fun K hK => ?_) AllReadyIn.nil
  go_simp
  refine hr0.mono ?_
  clear hr0 y0
  rintro e V2 (⟨rfl, J2, k2⟩ | ⟨rfl, Jx⟩)
  rotate_left
  · refine hK _ _ ?_
    clear hK K
    refine takeV (i := 13) (d := some 26) rfl rfl rfl (by kernel_rfl) (by kernel_rfl) (by kernel_rfl) (fun _ _ _ h => h) (by kernel_rfl) (by intro w; go_simp; try with_reducible rfl) (fun _ => rfl) ?_
    refine takeV (i := 14) (d := some 27) rfl rfl rfl (by kernel_rfl) (by kernel_rfl) (by kernel_rfl) (fun _ _ _ h => h) (by kernel_rfl) (by intro w; go_simp; try with_reducible rfl) (fun _ => rfl) ?_
    refine takeU (i := 15) (d := some 28) rfl rfl rfl (by kernel_rfl) (by kernel_rfl) (by kernel_rfl) (fun _ _ _ h => h) (by kernel_rfl) (fun _ => by kernel_rfl) ?_
    refine takeU (i := 16) (d := some 29) rfl rfl rfl (by kernel_rfl) (by kernel_rfl) (by kernel_rfl) (fun _ _ _ h => h) (by kernel_rfl) (fun _ => by kernel_rfl) ?_
    refine takeU (i := 17) (d := some 30) rfl rfl rfl (by kernel_rfl) (by kernel_rfl) (by kernel_rfl) (fun _ _ _ h => h) (by kernel_rfl) (fun _ => by kernel_rfl) ?_
    refine takeU (i := 18) (d := some 31) rfl rfl rfl (by kernel_rfl) (by kernel_rfl) (by kernel_rfl) (fun _ _ _ h => h) (by kernel_rfl) (fun _ => by kernel_rfl) ?_
    refine takeU (i := 19) (d := some 32) rfl rfl rfl (by kernel_rfl) (by kernel_rfl) (by kernel_rfl) (fun _ _ _ h => h) (by kernel_rfl) (fun _ => by kernel_rfl) ?_
    refine takeU (i := 20) (d := some 33) rfl rfl rfl (by kernel_rfl) (by kernel_rfl) (by kernel_rfl) (fun _ _ _ h => h) (by kernel_rfl) (fun _ => by kernel_rfl) ?_
    refine takeU (i := 21) (d := some 34) rfl rfl rfl (by kernel_rfl) (by kernel_rfl) (by kernel_rfl) (fun _ _ _ h => h) (by kernel_rfl) (fun _ => by kernel_rfl) ?_
    refine takeV (i := 22) (d := some 35) rfl rfl rfl (by kernel_rfl) (by kernel_rfl) (by kernel_rfl) (fun _ _ _ h => h) (by kernel_rfl) (by intro w; go_simp; try with_reducible rfl) (fun _ => rfl) ?_
    refine takeV (i := 23) (d := some 36) rfl rfl rfl (by kernel_rfl) (by kernel_rfl) (by kernel_rfl) (fun _ _ _ h => h) (by kernel_rfl) (by intro w; go_simp; try with_reducible rfl) (fun _ => rfl) ?_
    refine takeU (i := 24) (d := some 37) rfl rfl rfl (by kernel_rfl) (by kernel_rfl) (by kernel_rfl) (fun _ _ _ h => h) (by kernel_rfl) (fun _ => by kernel_rfl) ?_
    refine takeU (i := 25) (d := some 38) rfl rfl rfl (by kernel_rfl) (by kernel_rfl) (by kernel_rfl) (fun _ _ _ h => h) (by kernel_rfl) (fun _ => by kernel_rfl) ?_
    refine takeU (i := 26) (d := some 39) rfl rfl rfl (by kernel_rfl) (by kernel_rfl) (by kernel_rfl) (fun _ _ _ h => h) (by kernel_rfl) (fun _ => by kernel_rfl) ?_
    refine takeU (i := 27) (d := some 40) rfl rfl rfl (by kernel_rfl) (by kernel_rfl) (by kernel_rfl) (fun _ _ _ h => h) (by kernel_rfl) (fun _ => by kernel_rfl) ?_
    refine takeU (i := 28) (d := some 41) rfl rfl rfl (by kernel_rfl) (by kernel_rfl) (by kernel_rfl) (fun _ _ _ h => h) (by kernel_rfl) (fun _ => by kernel_rfl) ?_
    refine takeU (i := 29) (d := some 42) rfl rfl rfl (by kernel_rfl) (by kernel_rfl) (by kernel_rfl) (fun _ _ _ h => h) (by kernel_rfl) (fun _ => by kernel_rfl) ?_
    refine takeU (i := 30) (d := some 43) rfl rfl rfl (by kernel_rfl) (by kernel_rfl) (by kernel_rfl) (fun _ _ _ h => h) (by kernel_rfl) (fun _ => by kernel_rfl) ?_
    refine takeV (i := 31) (d := some 44) rfl rfl rfl (by kernel_rfl) (by kernel_rfl) (by kernel_rfl) (fun _ _ _ h => h) (by kernel_rfl) (by intro w; go_simp; try with_reducible rfl) (fun _ => rfl) ?_
    refine takeV (i := 32) (d := some 45) rfl rfl rfl (by kernel_rfl) (by kernel_rfl) (by kernel_rfl) (fun _ _ _ h => h) (by kernel_rfl) (by intro w; go_simp; try with_reducible rfl) (fun _ => rfl) ?_
    refine takeU (i := 33) (d := some 46) rfl rfl rfl (by kernel_rfl) (by kernel_rfl) (by kernel_rfl) (fun _ _ _ h => h) (by kernel_rfl) (fun _ => by kernel_rfl) ?_
    refine takeU (i := 34) (d := some 47) rfl rfl rfl (by kernel_rfl) (by kernel_rfl) (by kernel_rfl) (fun _ _ _ h => h) (by kernel_rfl) (fun _ => by kernel_rfl) ?_
    refine takeU (i := 35) (d := some 48) rfl rfl rfl (by kernel_rfl) (by kernel_rfl) (by kernel_rfl) (fun _ _ _ h => h) (by kernel_rfl) (fun _ => by kernel_rfl) ?_
    refine takeU (i := 36) (d := some 49) rfl rfl rfl (by kernel_rfl) (by kernel_rfl) (by kernel_rfl) (fun _ _ _ h => h) (by kernel_rfl) (fun _ => by kernel_rfl) ?_
    refine takeU (i := 37) (d := some 50) rfl rfl rfl (by kernel_rfl) (by kernel_rfl) (by kernel_rfl) (fun _ _ _ h => h) (by kernel_rfl) (fun _ => by kernel_rfl) ?_
    refine takeU (i := 38) (d := some 51) rfl rfl rfl (by kernel_rfl) (by kernel_rfl) (by kernel_rfl) (fun _ _ _ h => h) (by kernel_rfl) (fun _ => by kernel_rfl) ?_
    refine takeU (i := 39) (d := some 52) rfl rfl rfl (by kernel_rfl) (by kernel_rfl) (by kernel_rfl) (fun _ _ _ h => h) (by kernel_rfl) (fun _ => by kernel_rfl) ?_
    refine takeV (i := 40) (d := some 53) rfl rfl rfl (by kernel_rfl) (by kernel_rfl) (by kernel_rfl) (fun _ _ _ h => h) (by kernel_rfl) (by intro w; go_simp; try with_reducible rfl) (fun _ => rfl) ?_
    refine wpAnyIn_done (by kernel_rfl) ?_ _
    simp only [Exit.then]
    apply_assumption
    exact wpIn_cond_false (by kernel_rfl) (wpIn_skip (bodyPost_end (results_none rfl _ _ _) (by kernel_rfl) ⟨⟨_, rfl⟩, .inr ⟨_, trivial, Jx⟩⟩))
  refine hK _ _ ?_
  clear hK K
  refine takeV (i := 13) (d := some 26) rfl rfl rfl (by kernel_rfl) (by kernel_rfl) (by kernel_rfl) (fun _ _ _ h => h) (by kernel_rfl) (by intro w; go_simp; try with_reducible rfl) (fun _ => rfl) ?_
  refine takeV (i := 14) (d := some 27) rfl rfl rfl (by kernel_rfl) (by kernel_rfl) (by kernel_rfl) (fun _ _ _ h => h) (by kernel_rfl) (by intro w; go_simp; try with_reducible rfl) (fun _ => rfl) ?_
  have HL2 := HL1.keep hW k2
  clear k2
  -- stage 2
  obtain ⟨fn0, tmps0, assign0, body0, hy0, hr0⟩ := HY.out [0, 1] 2 V2 J2 ⟨rfl, by omega⟩
  have y0 : (Instr.yield l #[.pointer (some ⟨B, 2, none⟩), .agg #[.int .i64 (-1), .int .i64 5, .int .i64 1]]).run Tryd.prog V2 = .ok (.round l fn0 tmps0 assign0 body0) V2 := hy0
  have cp := ptr_cell HL2.bx
  obtain ⟨ca, cb, cc⟩ := lim_cells HL2.k2
  clear hy0
  refine takeV (i := 15) (d := some 28) rfl rfl rfl (by kernel_rfl) (by kernel_rfl) (by kernel_rfl) (fun _ _ _ h => h) (by kernel_rfl) (by intro w; go_simp; try with_reducible rfl) (fun _ => rfl) ?_
  refine wpAnyIn_ready (rs := [16, 20]) (by kernel_rfl) (by simp) ?_
  apply shareW (F := fun V' => V2 = V')
  · intro h1
    refine AllReadyIn.cons rfl (fun K hK => ?_) (AllReadyIn.cons rfl (fun K hK => ?_) AllReadyIn.nil)
    · go_simp
      refine hK _ _ ?_
      clear hK K
      refine takeV (i := 17) (d := some 30) rfl rfl rfl (by kernel_rfl) (by kernel_rfl) (by kernel_rfl) (fun _ _ _ h => h) (by kernel_rfl) (by intro w; go_simp; try with_reducible rfl) (fun _ => rfl) ?_
      refine takeV (i := 18) (d := some 31) rfl rfl rfl (by kernel_rfl) (by kernel_rfl) (by kernel_rfl) (fun _ _ _ h => h) (by kernel_rfl) (by intro w; go_simp; try with_reducible rfl) (fun _ => rfl) ?_
      refine takeV (i := 19) (d := some 32) rfl rfl rfl (by kernel_rfl) (by kernel_rfl) (by kernel_rfl) (fun _ _ _ h => h) (by kernel_rfl) (by intro w; go_simp; try with_reducible rfl) (fun _ => rfl) ?_
      refine wpAnyIn_ready (rs := [20]) (by kernel_rfl) (by simp) ?_
      refine AllReadyIn.cons rfl (fun K hK => ?_) AllReadyIn.nil
      go_simp
      refine hK _ _ ?_
      clear hK K
      exact h1 _ rfl
    · go_simp
      refine hK _ _ ?_
      clear hK K
      refine wpAnyIn_ready (rs := [16]) (by kernel_rfl) (by simp) ?_
      refine AllReadyIn.cons rfl (fun K hK => ?_) AllReadyIn.nil
      go_simp
      refine hK _ _ ?_
      clear hK K
      refine takeV (i := 17) (d := some 30) rfl rfl rfl (by kernel_rfl) (by kernel_rfl) (by kernel_rfl) (fun _ _ _ h => h) (by kernel_rfl) (by intro w; go_simp; try with_reducible rfl) (fun _ => rfl) ?_
      refine takeV (i := 18) (d := some 31) rfl rfl rfl (by kernel_rfl) (by kernel_rfl) (by kernel_rfl) (fun _ _ _ h => h) (by kernel_rfl) (by intro w; go_simp; try with_reducible rfl) (fun _ => rfl) ?_
      refine takeV (i := 19) (d := some 32) rfl rfl rfl (by kernel_rfl) (by kernel_rfl) (by kernel_rfl) (fun _ _ _ h => h) (by kernel_rfl) (by intro w; go_simp; try with_reducible rfl) (fun _ => rfl) ?_
      exact h1 _ rfl
  intro V' e1
  subst e1
  clear cp ca cb cc
  refine wpAnyIn_ready (rs := [21]) (by kernel_rfl) (by simp) ?_
  refine AllReadyIn.cons rfl (fun K hK => ?_) AllReadyIn.nil
  go_simp
  refine hr0.mono ?_
  clear hr0 y0
  rintro e V3 (⟨rfl, J3, k3⟩ | ⟨rfl, Jx⟩)
  rotate_left
  · refine hK _ _ ?_
    clear hK K
    refine takeV (i := 22) (d := some 35) rfl rfl rfl (by kernel_rfl) (by kernel_rfl) (by kernel_rfl) (fun _ _ _ h => h) (by kernel_rfl) (by intro w; go_simp; try with_reducible rfl) (fun _ => rfl) ?_
    refine takeV (i := 23) (d := some 36) rfl rfl rfl (by kernel_rfl) (by kernel_rfl) (by kernel_rfl) (fun _ _ _ h => h) (by kernel_rfl) (by intro w; go_simp; try with_reducible rfl) (fun _ => rfl) ?_
    refine takeU (i := 24) (d := some 37) rfl rfl rfl (by kernel_rfl) (by kernel_rfl) (by kernel_rfl) (fun _ _ _ h => h) (by kernel_rfl) (fun _ => by kernel_rfl) ?_
    refine takeU (i := 25) (d := some 38) rfl rfl rfl (by kernel_rfl) (by kernel_rfl) (by kernel_rfl) (fun _ _ _ h => h) (by kernel_rfl) (fun _ => by kernel_rfl) ?_
    refine takeU (i := 26) (d := some 39) rfl rfl rfl (by kernel_rfl) (by kernel_rfl) (by kernel_rfl) (fun _ _ _ h => h) (by kernel_rfl) (fun _ => by kernel_rfl) ?_
    refine takeU (i := 27) (d := some 40) rfl rfl rfl (by kernel_rfl) (by kernel_rfl) (by kernel_rfl) (fun _ _ _ h => h) (by kernel_rfl) (fun _ => by kernel_rfl) ?_
    refine takeU (i := 28) (d := some 41) rfl rfl rfl (by kernel_rfl) (by kernel_rfl) (by kernel_rfl) (fun _ _ _ h => h) (by kernel_rfl) (fun _ => by kernel_rfl) ?_
    refine takeU (i := 29) (d := some 42) rfl rfl rfl (by kernel_rfl) (by kernel_rfl) (by kernel_rfl) (fun _ _ _ h => h) (by kernel_rfl) (fun _ => by kernel_rfl) ?_
    refine takeU (i := 30) (d := some 43) rfl rfl rfl (by kernel_rfl) (by kernel_rfl) (by kernel_rfl) (fun _ _ _ h => h) (by kernel_rfl) (fun _ => by kernel_rfl) ?_
    refine takeV (i := 31) (d := some 44) rfl rfl rfl (by kernel_rfl) (by kernel_rfl) (by kernel_rfl) (fun _ _ _ h => h) (by kernel_rfl) (by intro w; go_simp; try with_reducible rfl) (fun _ => rfl) ?_
    refine takeV (i := 32) (d := some 45) rfl rfl rfl (by kernel_rfl) (by kernel_rfl) (by kernel_rfl) (fun _ _ _ h => h) (by kernel_rfl) (by intro w; go_simp; try with_reducible rfl) (fun _ => rfl) ?_
    refine takeU (i := 33) (d := some 46) rfl rfl rfl (by kernel_rfl) (by kernel_rfl) (by kernel_rfl) (fun _ _ _ h => h) (by kernel_rfl) (fun _ => by kernel_rfl) ?_
    refine takeU (i := 34) (d := some 47) rfl rfl rfl (by kernel_rfl) (by kernel_rfl) (by kernel_rfl) (fun _ _ _ h => h) (by kernel_rfl) (fun _ => by kernel_rfl) ?_
    refine takeU (i := 35) (d := some 48) rfl rfl rfl (by kernel_rfl) (by kernel_rfl) (by kernel_rfl) (fun _ _ _ h => h) (by kernel_rfl) (fun _ => by kernel_rfl) ?_
    refine takeU (i := 36) (d := some 49) rfl rfl rfl (by kernel_rfl) (by kernel_rfl) (by kernel_rfl) (fun _ _ _ h => h) (by kernel_rfl) (fun _ => by kernel_rfl) ?_
    refine takeU (i := 37) (d := some 50) rfl rfl rfl (by kernel_rfl) (by kernel_rfl) (by kernel_rfl) (fun _ _ _ h => h) (by kernel_rfl) (fun _ => by kernel_rfl) ?_
    refine takeU (i := 38) (d := some 51) rfl rfl rfl (by kernel_rfl) (by kernel_rfl) (by kernel_rfl) (fun _ _ _ h => h) (by kernel_rfl) (fun _ => by kernel_rfl) ?_
    refine takeU (i := 39) (d := some 52) rfl rfl rfl (by kernel_rfl) (by kernel_rfl) (by kernel_rfl) (fun _ _ _ h => h) (by kernel_rfl) (fun _ => by kernel_rfl) ?_
    refine takeV (i := 40) (d := some 53) rfl rfl rfl (by kernel_rfl) (by kernel_rfl) (by kernel_rfl) (fun _ _ _ h => h) (by kernel_rfl) (by intro w; go_simp; try with_reducible rfl) (fun _ => rfl) ?_
    refine wpAnyIn_done (by kernel_rfl) ?_ _
    simp only [Exit.then]
    apply_assumption
    exact wpIn_cond_false (by kernel_rfl) (wpIn_skip (bodyPost_end (results_none rfl _ _ _) (by kernel_rfl) ⟨⟨_, rfl⟩, .inr ⟨_, trivial, Jx⟩⟩))
  refine hK _ _ ?_
  clear hK K
  refine takeV (i := 22) (d := some 35) rfl rfl rfl (by kernel_rfl) (by kernel_rfl) (by kernel_rfl) (fun _ _ _ h => h) (by kernel_rfl) (by intro w; go_simp; try with_reducible rfl) (fun _ => rfl) ?_
  refine takeV (i := 23) (d := some 36) rfl rfl rfl (by kernel_rfl) (by kernel_rfl) (by kernel_rfl) (fun _ _ _ h => h) (by kernel_rfl) (by intro w; go_simp; try with_reducible rfl) (fun _ => rfl) ?_
  have HL3 := HL2.keep hW k3
  clear k3
  -- stage 3
  obtain ⟨fn0, tmps0, assign0, body0, hy0, hr0⟩ := HY.out [0, 1, 2] 3 V3 J3 ⟨rfl, by omega⟩
  have y0 : (Instr.yield l #[.pointer (some ⟨B, 3, none⟩), .agg #[.int .i64 (-1), .int .i64 5, .int .i64 1]]).run Tryd.prog V3 = .ok (.round l fn0 tmps0 assign0 body0) V3 := hy0
  have cp := ptr_cell HL3.bx
  obtain ⟨ca, cb, cc⟩ := lim_cells HL3.k2
  clear hy0
  refine takeV (i := 24) (d := some 37) rfl rfl rfl (by kernel_rfl) (by kernel_rfl) (by kernel_rfl) (fun _ _ _ h => h) (by kernel_rfl) (by intro w; go_simp; try with_reducible rfl) (fun _ => rfl) ?_
  refine wpAnyIn_ready (rs := [25, 29]) (by kernel_rfl) (by simp) ?_
  apply shareW (F := fun V' => V3 = V')
  · intro h1
    refine AllReadyIn.cons rfl (fun K hK => ?_) (AllReadyIn.cons rfl (fun K hK => ?_) AllReadyIn.nil)
    · go_simp
      refine hK _ _ ?_
      clear hK K
      refine takeV (i := 26) (d := some 39) rfl rfl rfl (by kernel_rfl) (by kernel_rfl) (by kernel_rfl) (fun _ _ _ h => h) (by kernel_rfl) (by intro w; go_simp; try with_reducible rfl) (fun _ => rfl) ?_
      refine takeV (i := 27) (d := some 40) rfl rfl rfl (by kernel_rfl) (by kernel_rfl) (by kernel_rfl) (fun _ _ _ h => h) (by kernel_rfl) (by intro w; go_simp; try with_reducible rfl) (fun _ => rfl) ?_
      refine takeV (i := 28) (d := some 41) rfl rfl rfl (by kernel_rfl) (by kernel_rfl) (by kernel_rfl) (fun _ _ _ h => h) (by kernel_rfl) (by intro w; go_simp; try with_reducible rfl) (fun _ => rfl) ?_
      refine wpAnyIn_ready (rs := [29]) (by kernel_rfl) (by simp) ?_
      refine AllReadyIn.cons rfl (fun K hK => ?_) AllReadyIn.nil
      go_simp
      refine hK _ _ ?_
      clear hK K
      exact h1 _ rfl
    · go_simp
      refine hK _ _ ?_
      clear hK K
      refine wpAnyIn_ready (rs := [25]) (by kernel_rfl) (by simp) ?_
      refine AllReadyIn.cons rfl (fun K hK => ?_) AllReadyIn.nil
      go_simp
      refine hK _ _ ?_
      clear hK K
      refine takeV (i := 26) (d := some 39) rfl rfl rfl (by kernel_rfl) (by kernel_rfl) (by kernel_rfl) (fun _ _ _ h => h) (by kernel_rfl) (by intro w; go_simp; try with_reducible rfl) (fun _ => rfl) ?_
      refine takeV (i := 27) (d := some 40) rfl rfl rfl (by kernel_rfl) (by kernel_rfl) (by kernel_rfl) (fun _ _ _ h => h) (by kernel_rfl) (by intro w; go_simp; try with_reducible rfl) (fun _ => rfl) ?_
      refine takeV (i := 28) (d := some 41) rfl rfl rfl (by kernel_rfl) (by kernel_rfl) (by kernel_rfl) (fun _ _ _ h => h) (by kernel_rfl) (by intro w; go_simp; try with_reducible rfl) (fun _ => rfl) ?_
      exact h1 _ rfl
  intro V' e1
  subst e1
  clear cp ca cb cc
  refine wpAnyIn_ready (rs := [30]) (by kernel_rfl) (by simp) ?_
  refine AllReadyIn.cons rfl (fun K hK => ?_) AllReadyIn.nil
  go_simp
  refine hr0.mono ?_
  clear hr0 y0
  rintro e V4 (⟨rfl, J4, k4⟩ | ⟨rfl, Jx⟩)
  rotate_left
  · refine hK _ _ ?_
    clear hK K
    refine takeV (i := 31) (d := some 44) rfl rfl rfl (by kernel_rfl) (by kernel_rfl) (by kernel_rfl) (fun _ _ _ h => h) (by kernel_rfl) (by intro w; go_simp; try with_reducible rfl) (fun _ => rfl) ?_
    refine takeV (i := 32) (d := some 45) rfl rfl rfl (by kernel_rfl) (by kernel_rfl) (by kernel_rfl) (fun _ _ _ h => h) (by kernel_rfl) (by intro w; go_simp; try with_reducible rfl) (fun _ => rfl) ?_
    refine takeU (i := 33) (d := some 46) rfl rfl rfl (by kernel_rfl) (by kernel_rfl) (by kernel_rfl) (fun _ _ _ h => h) (by kernel_rfl) (fun _ => by kernel_rfl) ?_
    refine takeU (i := 34) (d := some 47) rfl rfl rfl (by kernel_rfl) (by kernel_rfl) (by kernel_rfl) (fun _ _ _ h => h) (by kernel_rfl) (fun _ => by kernel_rfl) ?_
    refine takeU (i := 35) (d := some 48) rfl rfl rfl (by kernel_rfl) (by kernel_rfl) (by kernel_rfl) (fun _ _ _ h => h) (by kernel_rfl) (fun _ => by kernel_rfl) ?_
    refine takeU (i := 36) (d := some 49) rfl rfl rfl (by kernel_rfl) (by kernel_rfl) (by kernel_rfl) (fun _ _ _ h => h) (by kernel_rfl) (fun _ => by kernel_rfl) ?_
    refine takeU (i := 37) (d := some 50) rfl rfl rfl (by kernel_rfl) (by kernel_rfl) (by kernel_rfl) (fun _ _ _ h => h) (by kernel_rfl) (fun _ => by kernel_rfl) ?_
    refine takeU (i := 38) (d := some 51) rfl rfl rfl (by kernel_rfl) (by kernel_rfl) (by kernel_rfl) (fun _ _ _ h => h) (by kernel_rfl) (fun _ => by kernel_rfl) ?_
    refine takeU (i := 39) (d := some 52) rfl rfl rfl (by kernel_rfl) (by kernel_rfl) (by kernel_rfl) (fun _ _ _ h => h) (by kernel_rfl) (fun _ => by kernel_rfl) ?_
    refine takeV (i := 40) (d := some 53) rfl rfl rfl (by kernel_rfl) (by kernel_rfl) (by kernel_rfl) (fun _ _ _ h => h) (by kernel_rfl) (by intro w; go_simp; try with_reducible rfl) (fun _ => rfl) ?_
    refine wpAnyIn_done (by kernel_rfl) ?_ _
    simp only [Exit.then]
    apply_assumption
    exact wpIn_cond_false (by kernel_rfl) (wpIn_skip (bodyPost_end (results_none rfl _ _ _) (by kernel_rfl) ⟨⟨_, rfl⟩, .inr ⟨_, trivial, Jx⟩⟩))
  refine hK _ _ ?_
  clear hK K
  refine takeV (i := 31) (d := some 44) rfl rfl rfl (by kernel_rfl) (by kernel_rfl) (by kernel_rfl) (fun _ _ _ h => h) (by kernel_rfl) (by intro w; go_simp; try with_reducible rfl) (fun _ => rfl) ?_
  refine takeV (i := 32) (d := some 45) rfl rfl rfl (by kernel_rfl) (by kernel_rfl) (by kernel_rfl) (fun _ _ _ h => h) (by kernel_rfl) (by intro w; go_simp; try with_reducible rfl) (fun _ => rfl) ?_
  have HL4 := HL3.keep hW k4
  clear k4
  -- stage 4
  obtain ⟨fn0, tmps0, assign0, body0, hy0, hr0⟩ := HY.out [0, 1, 2, 3] 4 V4 J4 ⟨rfl, by omega⟩
  have y0 : (Instr.yield l #[.pointer (some ⟨B, 4, none⟩), .agg #[.int .i64 0, .int .i64 2147483647, .int .i64 4]]).run Tryd.prog V4 = .ok (.round l fn0 tmps0 assign0 body0) V4 := hy0
  have cp := ptr_cell HL4.bx
  obtain ⟨ca, cb, cc⟩ := lim_cells HL4.k3
  clear hy0
  refine takeV (i := 33) (d := some 46) rfl rfl rfl (by kernel_rfl) (by kernel_rfl) (by kernel_rfl) (fun _ _ _ h => h) (by kernel_rfl) (by intro w; go_simp; try with_reducible rfl) (fun _ => rfl) ?_
  refine wpAnyIn_ready (rs := [34, 38]) (by kernel_rfl) (by simp) ?_
  apply shareW (F := fun V' => V4 = V')
  · intro h1
    refine AllReadyIn.cons rfl (fun K hK => ?_) (AllReadyIn.cons rfl (fun K hK => ?_) AllReadyIn.nil)
    · go_simp
      refine hK _ _ ?_
      clear hK K
      refine takeV (i := 35) (d := some 48) rfl rfl rfl (by kernel_rfl) (by kernel_rfl) (by kernel_rfl) (fun _ _ _ h => h) (by kernel_rfl) (by intro w; go_simp; try with_reducible rfl) (fun _ => rfl) ?_
      refine takeV (i := 36) (d := some 49) rfl rfl rfl (by kernel_rfl) (by kernel_rfl) (by kernel_rfl) (fun _ _ _ h => h) (by kernel_rfl) (by intro w; go_simp; try with_reducible rfl) (fun _ => rfl) ?_
      refine takeV (i := 37) (d := some 50) rfl rfl rfl (by kernel_rfl) (by kernel_rfl) (by kernel_rfl) (fun _ _ _ h => h) (by kernel_rfl) (by intro w; go_simp; try with_reducible rfl) (fun _ => rfl) ?_
      refine wpAnyIn_ready (rs := [38]) (by kernel_rfl) (by simp) ?_
      refine AllReadyIn.cons rfl (fun K hK => ?_) AllReadyIn.nil
      go_simp
      refine hK _ _ ?_
      clear hK K
      exact h1 _ rfl
    · go_simp
      refine hK _ _ ?_
      clear hK K
      refine wpAnyIn_ready (rs := [34]) (by kernel_rfl) (by simp) ?_
      refine AllReadyIn.cons rfl (fun K hK => ?_) AllReadyIn.nil
      go_simp
      refine hK _ _ ?_
      clear hK K
      refine takeV (i := 35) (d := some 48) rfl rfl rfl (by kernel_rfl) (by kernel_rfl) (by kernel_rfl) (fun _ _ _ h => h) (by kernel_rfl) (by intro w; go_simp; try with_reducible rfl) (fun _ => rfl) ?_
      refine takeV (i := 36) (d := some 49) rfl rfl rfl (by kernel_rfl) (by kernel_rfl) (by kernel_rfl) (fun _ _ _ h => h) (by kernel_rfl) (by intro w; go_simp; try with_reducible rfl) (fun _ => rfl) ?_
      refine takeV (i := 37) (d := some 50) rfl rfl rfl (by kernel_rfl) (by kernel_rfl) (by kernel_rfl) (fun _ _ _ h => h) (by kernel_rfl) (by intro w; go_simp; try with_reducible rfl) (fun _ => rfl) ?_
      exact h1 _ rfl
  intro V' e1
  subst e1
  clear cp ca cb cc
  refine wpAnyIn_ready (rs := [39]) (by kernel_rfl) (by simp) ?_
  refine AllReadyIn.cons rfl (fun K hK => ?_) AllReadyIn.nil
  go_simp
  refine hr0.mono ?_
  clear hr0 y0
  rintro e V5 (⟨rfl, J5, k5⟩ | ⟨rfl, Jx⟩)
  rotate_left
  · refine hK _ _ ?_
    clear hK K
    refine takeV (i := 40) (d := some 53) rfl rfl rfl (by kernel_rfl) (by kernel_rfl) (by kernel_rfl) (fun _ _ _ h => h) (by kernel_rfl) (by intro w; go_simp; try with_reducible rfl) (fun _ => rfl) ?_
    refine wpAnyIn_done (by kernel_rfl) ?_ _
    simp only [Exit.then]
    apply_assumption
    exact wpIn_cond_false (by kernel_rfl) (wpIn_skip (bodyPost_end (results_none rfl _ _ _) (by kernel_rfl) ⟨⟨_, rfl⟩, .inr ⟨_, trivial, Jx⟩⟩))
  refine hK _ _ ?_
  clear hK K
  refine takeV (i := 40) (d := some 53) rfl rfl rfl (by kernel_rfl) (by kernel_rfl) (by kernel_rfl) (fun _ _ _ h => h) (by kernel_rfl) (by intro w; go_simp; try with_reducible rfl) (fun _ => rfl) ?_
  have HL5 := HL4.keep hW k5
  clear k5
  refine wpAnyIn_done (by kernel_rfl) ?_ _
  simp only [Exit.then]
  apply_assumption
  refine wpIn_cond_true (by kernel_rfl) ?_
  refine wpIn_region_any (by kernel_rfl) ?_
  try (change wpAnyIn _ _ _ _ _ _ _ _ _ (World.drew _))
  have J6 := HD.out _ _ J5
  have HL6 := HL5.drew
  clear HL5 J5
  generalize V5.drew = V6 at *
  obtain ⟨fn0, tmps0, assign0, body0, hy0, hr0⟩ := HY.out [0, 1, 2, 3, 4] 5 V6 J6 ⟨rfl, by omega⟩
  have y0 : (Instr.yield l #[.pointer (some ⟨B, 5, none⟩), .agg #[.int .i64 0, .int .i64 1099511627776, .int .i64 6]]).run Tryd.prog V6 = .ok (.round l fn0 tmps0 assign0 body0) V6 := hy0
  have cp := ptr_cell HL6.bx
  obtain ⟨ca, cb, cc⟩ := lim_cells HL6.k4
  clear hy0
  refine takeV (i := 0) (d := some 54) rfl rfl rfl (by kernel_rfl) (by kernel_rfl) (by kernel_rfl) (fun _ _ _ h => h) (by kernel_rfl) (by intro w; go_simp; try with_reducible rfl) (fun _ => rfl) ?_
  refine wpAnyIn_ready (rs := [1, 5]) (by kernel_rfl) (by simp) ?_
  apply shareW (F := fun V' => V6 = V')
  · intro h1
    refine AllReadyIn.cons rfl (fun K hK => ?_) (AllReadyIn.cons rfl (fun K hK => ?_) AllReadyIn.nil)
    · go_simp
      refine hK _ _ ?_
      clear hK K
      refine takeV (i := 2) (d := some 56) rfl rfl rfl (by kernel_rfl) (by kernel_rfl) (by kernel_rfl) (fun _ _ _ h => h) (by kernel_rfl) (by intro w; go_simp; try with_reducible rfl) (fun _ => rfl) ?_
      refine takeV (i := 3) (d := some 57) rfl rfl rfl (by kernel_rfl) (by kernel_rfl) (by kernel_rfl) (fun _ _ _ h => h) (by kernel_rfl) (by intro w; go_simp; try with_reducible rfl) (fun _ => rfl) ?_
      refine takeV (i := 4) (d := some 58) rfl rfl rfl (by kernel_rfl) (by kernel_rfl) (by kernel_rfl) (fun _ _ _ h => h) (by kernel_rfl) (by intro w; go_simp; try with_reducible rfl) (fun _ => rfl) ?_
      refine wpAnyIn_ready (rs := [5]) (by kernel_rfl) (by simp) ?_
      refine AllReadyIn.cons rfl (fun K hK => ?_) AllReadyIn.nil
      go_simp
      refine hK _ _ ?_
      clear hK K
      exact h1 _ rfl
    · go_simp
      refine hK _ _ ?_
      clear hK K
      refine wpAnyIn_ready (rs := [1]) (by kernel_rfl) (by simp) ?_
      refine AllReadyIn.cons rfl (fun K hK => ?_) AllReadyIn.nil
      go_simp
      refine hK _ _ ?_
      clear hK K
      refine takeV (i := 2) (d := some 56) rfl rfl rfl (by kernel_rfl) (by kernel_rfl) (by kernel_rfl) (fun _ _ _ h => h) (by kernel_rfl) (by intro w; go_simp; try with_reducible rfl) (fun _ => rfl) ?_
      refine takeV (i := 3) (d := some 57) rfl rfl rfl (by kernel_rfl) (by kernel_rfl) (by kernel_rfl) (fun _ _ _ h => h) (by kernel_rfl) (by intro w; go_simp; try with_reducible rfl) (fun _ => rfl) ?_
      refine takeV (i := 4) (d := some 58) rfl rfl rfl (by kernel_rfl) (by kernel_rfl) (by kernel_rfl) (fun _ _ _ h => h) (by kernel_rfl) (by intro w; go_simp; try with_reducible rfl) (fun _ => rfl) ?_
      exact h1 _ rfl
  intro V' e1
  subst e1
  clear cp ca cb cc
  refine wpAnyIn_ready (rs := [6]) (by kernel_rfl) (by simp) ?_
  refine AllReadyIn.cons rfl (fun K hK => ?_) AllReadyIn.nil
  go_simp
  refine hr0.mono ?_
  clear hr0 y0
  rintro e V7 (⟨rfl, J7, k7⟩ | ⟨rfl, Jx⟩)
  · refine hK _ _ ?_
    clear hK K
    refine wpAnyIn_done (by kernel_rfl) ?_ _
    exact bodyPost_end (results_none rfl _ _ _) (by kernel_rfl) ⟨⟨_, rfl⟩, .inl ⟨_, rfl, J7⟩⟩
  · refine hK _ _ ?_
    clear hK K
    refine wpAnyIn_done (by kernel_rfl) ?_ _
    exact bodyPost_end (results_none rfl _ _ _) (by kernel_rfl) ⟨⟨_, rfl⟩, .inr ⟨_, trivial, Jx⟩⟩


theorem lims_ok (n : Nat) (hn : 1 ≤ n) (nb B n0 : Nat) (w : World) (hw : n0 ≤ w.heap.size) (hb : w.heap[nb]? = some (.cells #[.pointer (some ⟨B, 0, none⟩)] 111 (0, 0))) :
    SeqOkD Fence.wide n Tryd.prog 74 #[.pointer (some ⟨nb, 0, none⟩)] (onumAt B) (fun pre x _ => x = pre.length ∧ x < 6) (KeepL nb n0) (fun xs => xs = [0, 1, 2, 3, 4, 5]) (fun _ => True) w :=
  fun l J Jx W hW hN hD hY h0 => lims_in n hn l nb B n0 W (Nat.le_trans hw hW.size) J Jx (hW.block nb (Array.getElem?_eq_some_iff.1 hb).1 |>.trans hb) hN hD hY h0
end Go.Proofs.YthenbpnlmpeafaaDoor
