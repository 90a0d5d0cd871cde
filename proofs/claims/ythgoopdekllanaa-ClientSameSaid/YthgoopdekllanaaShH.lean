/- A delta: package sheet's: what has changed, row by row. -/
import Derived.Test.YthgoopdekllanaaShG
import Derived.Test.YthgoopdekllanaaTbI
namespace Go.Proofs.Ythgoopdekllanaa
open Go.RowKit Go.Shelf
open SumM

attribute [local go_sem] Oper.semAt_some
attribute [local go_sem ↓] nm_ldT nm_ldA nm_stT

/-- The rows that have changed, as they are now. -/
def chS (T U : Nat → Int) : List SR := (selI (chP T U) (List.range 16)).map fun b => (b, rowT U b.toNat)

set_option maxRecDepth 100000 in
set_option maxHeartbeats 2000000 in
theorem schanged_in (n : Nat) (T U : Nat → Int) (w : World) :
    CallsIn Fence.wide n Try.prog 46 #[tabV T, tabV U] w fun e w' => e = .returned (.func (.func 66) #[] #[.pointer (some ⟨w.heap.size, 0, none⟩), .pointer (some ⟨w.heap.size + 1, 0, none⟩)]) ∧ w' = (w.alloc (.cells (numL 65 T).toArray 26)).alloc (.cells (numL 65 U).toArray 26) := by
  refine callsIn_of_wp Try.func46 rfl trivial ?_ rfl
  simp only [Try.ntmps46, List.size_toArray, List.length_cons, List.length_nil, Nat.reduceAdd, Nat.reduceSub, Array.replicate_succ, Array.replicate_zero, List.push_toArray, List.append_toArray, List.nil_append, List.cons_append]
  gi_wp2
  go_ret
  exact ⟨rfl, rfl⟩

theorem selI_ok {p : Nat → Bool} {z : Int} (h : z ∈ selI p (List.range 16)) : 0 ≤ z ∧ z < 16 := by
  simp only [selI, List.mem_map, List.mem_filter, List.mem_range] at h
  obtain ⟨i, ⟨hi, _⟩, rfl⟩ := h
  omega
theorem keepT_own {n0 : Nat} {ts : List TypeId} {A B : World} (hk : KeepT n0 ts A B) {base s : Nat} {e : TypeId} {v : Value} {n : Nat} {xs : List Value} (h : A.ownsRow base e s v n xs) (he : e ∈ ts) : B.ownsRow base e s v n xs := by
  refine ⟨h.1, ?_⟩
  rcases h.2 with h0 | ⟨g, cap, cur, hv, h1, hg, h2⟩
  · exact .inl h0
  · exact .inr ⟨g, cap, cur, hv, h1, hk.2 _ _ _ _ he hg, h2⟩
theorem chS_len (T U : Nat → Int) : (chS T U).length = (selI (chP T U) (List.range 16)).length := by simp [chS]
theorem chS_le (T U : Nat → Int) : (chS T U).length ≤ 16 := by rw [chS_len]; exact selI_len _ _

set_option maxRecDepth 100000 in
set_option maxHeartbeats 4000000 in
theorem schIter_in (n : Nat) (hn : 6 ≤ n) (B B' : Nat) (T U : Nat → Int) (n0 : Nat) (hB' : B' < n0) (l : Nat) (J Jx : List SR → World → Prop) (W : World) (hW : n0 ≤ W.heap.size) (hb : NB B 26 65 T W) (hb' : NB B' 26 65 U W)
    (hN : ∀ pre V V', J pre V → Below V.heap.size V V' → J pre V')
    (hY : ∀ pre x V, J pre V → RwOk (chS T U) pre x → YieldAt Fence.wide (n - 1) Try.prog l (encRw x) V fun e V' => (e = .returned (.bool true) ∧ J (pre ++ [x]) V' ∧ KeepT n0 bTs V V') ∨ (e = .returned (.bool false) ∧ Jx (pre ++ [x]) V'))
    (h0 : J [] W) :
    CallsIn Fence.wide n Try.prog 66 #[.func (.yield l) #[] #[], .pointer (some ⟨B, 0, none⟩), .pointer (some ⟨B', 0, none⟩)] W fun e W' => (∃ v, e = .returned v) ∧
      ((∃ xs, xs = chS T U ∧ J xs W') ∨ (∃ pre, True ∧ Jx pre W')) := by
  refine callsIn_of_wp Try.func66 rfl trivial ?_ rfl
  simp only [Try.ntmps66, List.size_toArray, List.length_cons, List.length_nil, Nat.reduceAdd, Nat.reduceSub, Array.replicate_succ, Array.replicate_zero, List.push_toArray, List.append_toArray, List.nil_append, List.cons_append]
  have q := ld_tab hb
  have q' := ld_tab hb'
  have HN := Lib.hid hN
  have HY := Lib.hid hY
  clear hN hY
  gi_wp2
  refine ⟨trivial, fun _ => by omega, (changed_own (n - 1) (by omega) T U W).mono ?_⟩
  rintro e w1 ⟨v, rfl, O1, m1⟩
  obtain ⟨A, c, rfl⟩ := own_slice O1
  have hXl := chS_len T U
  have hXg : ∀ k, k < (selI (chP T U) (List.range 16)).length → (chS T U)[k]?.getD sr0 = ((selI (chP T U) (List.range 16))[k]?.getD 0, rowT U ((selI (chP T U) (List.range 16))[k]?.getD 0).toNat) ∧ 0 ≤ (selI (chP T U) (List.range 16))[k]?.getD 0 ∧ (selI (chP T U) (List.range 16))[k]?.getD 0 < 16 := by
    intro k hk
    rw [chS, List.getElem?_map, List.getElem?_eq_getElem hk]
    exact ⟨rfl, selI_ok (List.getElem_mem hk)⟩
  have hlen := selI_len (chP T U) 16
  have HO := Lib.hid O1
  have K0 : KeepT n0 bTs w1 w1 := KeepT.refl _ _ _
  have HB' := Lib.hid (bb hb' m1)
  have HJ0 := Lib.hid (HN.out _ _ _ h0 m1)
  have HW1 : n0 ≤ w1.heap.size := Nat.le_trans hW m1.size
  clear q q' O1 hb hb' m1 h0
  generalize selI (chP T U) (List.range 16) = zs at *
  generalize hXe : chS T U = XS at *
  have HXE := Lib.hid hXe
  clear hXe
  have HX := Lib.hid hXl
  have HG := Lib.hid hXg
  clear hXl hXg
  gi_wp2
  gi_loopw [12] (fun i wr => ∃ k : Nat, k ≤ zs.length ∧ i = .int .i64 (k : Nat) ∧ J (XS.take k) wr ∧ KeepT n0 bTs w1 wr) (fun i _ => zs.length - (intOf i).toNat)
  case atStart => exact ⟨0, by omega, rfl, HJ0.out, K0⟩
  case round =>
    obtain ⟨k, hk, rfl, hJ, hKp⟩ := hrel
    have HJ := Lib.hid hJ
    have HK := Lib.hid hKp
    clear hJ hKp K0
    by_cases hlt : k < zs.length
    · have hk0 : (0 : Int) ≤ (k : Int) := by omega
      have hk1 : (k : Int) < (zs.length : Int) := by omega
      have O2 := keepT_own HK.out HO.out (by decide)
      obtain ⟨g, cap, hv, hg1, hg2⟩ := ownS_form O2 (by omega)
      obtain ⟨rfl, rfl⟩ : A = some ⟨g, 0, none⟩ ∧ c = cap := by injection hv; constructor <;> assumption
      have qc := own_cell O2 k hlt
      have HBt := Lib.hid (show NB B' 26 65 U wr from (HK.out.1.block _ (by omega)).trans HB'.out)
      have l2 := ld_tab HBt.out
      have hl : (XS.take k).length = k := by rw [List.length_take, HX.out]; omega
      obtain ⟨hx, hz0, hz1⟩ := HG.out k hlt
      have hxo : RwOk XS (XS.take k) (XS[k]?.getD sr0) := ⟨by rw [hl, HX.out]; exact hlt, by rw [hl], by rw [hl]⟩
      have HS := Lib.hid (show XS.take k ++ [XS[k]?.getD sr0] = XS.take (k + 1) by
        rw [List.take_add_one, List.getElem?_eq_getElem (by rw [HX.out]; exact hlt)]
        rfl)
      rw [hx] at hxo HS
      clear hx hl O2 hv hg2
      generalize zs[k]?.getD 0 = z at *
      have hrw : rwT U z = (rowT U z.toNat, true) := if_pos ⟨hz0, hz1⟩
      have KR0 := (callsIn_wide (n := n - 1)).2 (row_any U z wr)
      rw [hrw] at KR0
      have KR := Lib.hid KR0
      clear hrw KR0
      gi_wp2
      refine ⟨trivial, fun _ => by omega, KR.out.mono ?_⟩
      rintro e w2 ⟨rfl, m2⟩
      have K2 := Lib.hid (show KeepT n0 bTs w1 w2 from keepT_t HK.out ⟨m2.mono (by have := HK.out.1.size; omega), fun _ _ _ _ _ h => bb h m2⟩)
      have J2 := HN.out _ _ _ HJ.out m2
      clear l2 qc KR
      generalize rowT U z.toNat = u at *
      obtain ⟨u0, u1, u2, u3⟩ := u
      have hsz : n0 ≤ w2.heap.size := by have := K2.out.1.size; omega
      have kA := keepT_new (n := n0) (ts := bTs) (.cells #[.int .i64 u0, .int .i64 u1, .int .i64 u2, .int .i64 u3] 23) hsz
      have hY2 := HY.out (XS.take k) (z, u0, u1, u2, u3) (w2.alloc (.cells #[.int .i64 u0, .int .i64 u1, .int .i64 u2, .int .i64 u3] 23)) (HN.out _ _ _ J2 ((Below.refl _ w2).alloc (Nat.le_refl _) _)) hxo
      unfold encRw srV at hY2
      obtain ⟨fn, tmps, assign, body, hy, hr⟩ := hY2
      have y := (show (Instr.yield l #[.agg #[.int .i64 z, .int .i64 u0, .int .i64 u1, .int .i64 u2, .int .i64 u3]]).run Try.prog _ = .ok (.round l fn tmps assign body) _ from hy)
      have HR := Lib.hid hr
      have HKA := Lib.hid kA
      clear hy hr J2 hxo kA m2 hsz
      have hd := heap_alloc_new w2 (.cells #[.int .i64 0, .int .i64 0, .int .i64 0, .int .i64 0] 23)
      obtain ⟨z0, z1, z2, z3⟩ := ent_cells _ _ _ _ hd
      have f0 := ent_frozen hd 0
      have f1 := ent_frozen hd 1
      have f2 := ent_frozen hd 2
      have f3 := ent_frozen hd 3
      have hXX := heap_alloc_new w2 (.cells #[.int .i64 u0, .int .i64 u1, .int .i64 u2, .int .i64 u3] 23)
      obtain ⟨x0, x1, x2, x3⟩ := ent_cells _ _ _ _ hXX
      clear hd hXX
      gi_wp2
      refine ⟨fun _ => by omega, HR.out.mono ?_⟩
      rintro e3 W3 (⟨rfl, J3, k3⟩ | ⟨rfl, Jx3⟩)
      · have HJ3 := Lib.hid J3
        have HK3 := Lib.hid (keepT_t K2.out (keepT_t HKA.out k3))
        clear J3 k3 z0 z1 z2 z3 f0 f1 f2 f3 x0 x1 x2 x3 y
        gi_wp2
        go_roundw
        case rel => exact ⟨k + 1, by omega, by go_num, by rw [← HS.out]; exact HJ3.out, HK3.out⟩
        case measure => simp [intOf]; omega
      · have HJ3 := Lib.hid Jx3
        clear Jx3 z0 z1 z2 z3 f0 f1 f2 f3 x0 x1 x2 x3 y
        gi_wp2
        refine bodyPost_ret (results_none rfl _ _ _) rfl ?_
        exact ⟨⟨_, rfl⟩, .inr ⟨_, trivial, HJ3.out⟩⟩
    · obtain rfl : k = zs.length := by omega
      have e := Lib.hid (show XS.take zs.length = XS from List.take_of_length_le (by rw [HX.out]; exact Nat.le_refl _))
      gi_wp2
      go_end0
      exact ⟨⟨_, rfl⟩, .inl ⟨_, rfl, by rw [HXE.out, ← e.out]; exact HJ.out⟩⟩

theorem schanged_ok (n : Nat) (hn : 6 ≤ n) (B B' : Nat) (T U : Nat → Int) (n0 : Nat) (hB' : B' < n0) (w : World) (hw : n0 ≤ w.heap.size) (hb : NB B 26 65 T w) (hb' : NB B' 26 65 U w) : RwSeq n 66 #[.pointer (some ⟨B, 0, none⟩), .pointer (some ⟨B', 0, none⟩)] (chS T U) n0 w :=
  fun l J Jx W m hN _ _ hY h0 => schIter_in n hn B B' T U n0 hB' l J Jx W (Nat.le_trans hw m.size) (nb_below hb m) (nb_below hb' m) hN (fun pre x V hj ho => dropK (hY pre x V hj ho)) h0
end Go.Proofs.Ythgoopdekllanaa
