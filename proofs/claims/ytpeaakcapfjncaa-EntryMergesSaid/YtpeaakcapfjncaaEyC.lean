/- Package entry: holders, Holders; the iterator of those that may be. -/
import Derived.Test.YtpeaakcapfjncaaEyB
import Derived.Test.YtpeaakcapfjncaaRangeOkG
namespace Go.Proofs.Ytpeaakcapfjncaa
open Go.RowKit Go.Shelf
open SumM

attribute [local go_sem] Oper.semAt_some

theorem holders_in (n : Nat) (ec ep eg et : Int) (w : World) :
    CallsIn Fence.wide n Try.prog 26 #[.agg #[.int .i64 ec, .int .i64 ep, .int .i64 eg, .int .i64 et]] w fun e w' => e = .returned (.func (.func 29) #[] #[.pointer (some ⟨w.heap.size, 0, none⟩)]) ∧ w' = w.alloc (.cells #[.int .i64 ec, .int .i64 ep, .int .i64 eg, .int .i64 et] 23) := by
  refine callsIn_of_wp Try.func26 rfl trivial ?_ rfl
  simp only [Try.ntmps26, List.size_toArray, List.length_cons, List.length_nil, Nat.reduceAdd, Nat.reduceSub, Array.replicate_succ, Array.replicate_zero, List.push_toArray, List.append_toArray, List.nil_append, List.cons_append]
  gi_wp2
  go_ret
  exact ⟨rfl, rfl⟩

/-- What comes behind those that came. -/
def HolOk (l : List Int) (pre : List Int) (x : Int) : Prop := pre = l.take pre.length ∧ l[pre.length]? = some x
def encI (x : Int) : Array Value := #[.int .i64 x]

set_option maxRecDepth 100000 in
set_option maxHeartbeats 4000000 in
theorem holIter_in (n : Nat) (hn : 1 ≤ n) (B n0 : Nat) (hB : B < n0) (ec ep eg et : Int) (l : Nat) (J Jx : List Int → World → Prop) (W : World) (hb : W.heap[B]? = some (.cells #[.int .i64 ec, .int .i64 ep, .int .i64 eg, .int .i64 et] 23 (0, 0)))
    (hY : ∀ pre x V, J pre V → HolOk (hols ec ep) pre x → YieldAt Fence.wide (n - 1) Try.prog l (encI x) V fun e V' => (e = .returned (.bool true) ∧ J (pre ++ [x]) V' ∧ Below n0 V V') ∨ (e = .returned (.bool false) ∧ Jx (pre ++ [x]) V'))
    (h0 : J [] W) :
    CallsIn Fence.wide n Try.prog 29 #[.func (.yield l) #[] #[], .pointer (some ⟨B, 0, none⟩)] W fun e W' => (∃ v, e = .returned v) ∧
      ((∃ xs, xs = hols ec ep ∧ J xs W') ∨ (∃ pre, True ∧ Jx pre W')) := by
  refine callsIn_of_wp Try.func29 rfl trivial ?_ rfl
  simp only [Try.ntmps29, List.size_toArray, List.length_cons, List.length_nil, Nat.reduceAdd, Nat.reduceSub, Array.replicate_succ, Array.replicate_zero, List.push_toArray, List.append_toArray, List.nil_append, List.cons_append]
  have HY := Lib.hid hY
  clear hY
  by_cases h1 : ec = -1
  · have p1 : (ec != -1) = false := by simp [h1]
    by_cases h2 : ep = -1
    · have p2 : (ep != -1) = false := by simp [h2]
      have e := Lib.hid (show hols ec ep = [] by simp [hols, h1, h2])
      obtain ⟨q0, q1, q2, q3⟩ := ent_cells _ _ _ _ hb
      clear h1 h2
      gi_wp2
      refine ⟨fun f h => (by cases h), ?_⟩
      apply_assumption
      gi_wp2
      go_end0
      exact ⟨⟨_, rfl⟩, .inl ⟨_, e.out.symm, h0⟩⟩
    · have p2 : (ep != -1) = true := by simp [h2]
      have e := Lib.hid (show hols ec ep = [ep] by simp [hols, h1, h2])
      obtain ⟨fn, tmps, assign, body, hy, hRd⟩ := HY.out [] ep W h0 (by rw [e.out]; exact ⟨rfl, rfl⟩)
      have y := (show (Instr.yield l #[.int .i64 ep]).run Try.prog W = .ok (.round l fn tmps assign body) W from hy)
      obtain ⟨q0, q1, q2, q3⟩ := ent_cells _ _ _ _ hb
      have HR := Lib.hid hRd
      clear h1 h2 hy hRd
      gi_wp2
      refine ⟨fun f h => (by cases h), ?_⟩
      apply_assumption
      gi_wp2
      refine HR.out.mono ?_
      rintro e3 W3 (⟨rfl, J3, _⟩ | ⟨rfl, Jx3⟩)
      · have HJ3 := Lib.hid J3
        clear J3
        gi_wp2
        go_end0
        exact ⟨⟨_, rfl⟩, .inl ⟨_, e.out.symm, HJ3.out⟩⟩
      · have HJ3 := Lib.hid Jx3
        clear Jx3
        gi_wp2
        go_end0
        exact ⟨⟨_, rfl⟩, .inr ⟨_, trivial, HJ3.out⟩⟩
  · have p1 : (ec != -1) = true := by simp [h1]
    have hin : HolOk (hols ec ep) [] ec := by
      unfold HolOk hols
      rw [if_neg h1]
      exact ⟨rfl, rfl⟩
    obtain ⟨fn, tmps, assign, body, hy, hRd⟩ := HY.out [] ec W h0 hin
    have y := (show (Instr.yield l #[.int .i64 ec]).run Try.prog W = .ok (.round l fn tmps assign body) W from hy)
    obtain ⟨q0, q1, q2, q3⟩ := ent_cells _ _ _ _ hb
    have HR := Lib.hid hRd
    clear hy hRd hin
    gi_wp2
    refine HR.out.mono ?_
    rintro e3 W3 (⟨rfl, J3, K3⟩ | ⟨rfl, Jx3⟩)
    · have hb3 := (K3.block _ hB).trans hb
      have HJ3 := Lib.hid J3
      clear q0 q1 q2 q3 y
      obtain ⟨q0, q1, q2, q3⟩ := ent_cells _ _ _ _ hb3
      clear J3 K3 HR
      by_cases h2 : ep = -1
      · have p2 : (ep != -1) = false := by simp [h2]
        have e := Lib.hid (show hols ec ep = [ec] by simp [hols, h1, h2])
        clear h1 h2
        gi_wp2
        go_end0
        exact ⟨⟨_, rfl⟩, .inl ⟨_, e.out.symm, HJ3.out⟩⟩
      · have p2 : (ep != -1) = true := by simp [h2]
        have e := Lib.hid (show hols ec ep = [ec, ep] by simp [hols, h1, h2])
        obtain ⟨fn, tmps, assign, body, hy, hRd⟩ := HY.out [ec] ep W3 HJ3.out (by rw [e.out]; exact ⟨rfl, rfl⟩)
        have y := (show (Instr.yield l #[.int .i64 ep]).run Try.prog W3 = .ok (.round l fn tmps assign body) W3 from hy)
        have HR := Lib.hid hRd
        clear h1 h2 hy hRd
        gi_wp2
        refine HR.out.mono ?_
        rintro e3 W4 (⟨rfl, J4, _⟩ | ⟨rfl, Jx4⟩)
        · have HJ4 := Lib.hid J4
          clear J4
          gi_wp2
          go_end0
          exact ⟨⟨_, rfl⟩, .inl ⟨_, e.out.symm, HJ4.out⟩⟩
        · have HJ4 := Lib.hid Jx4
          clear Jx4
          gi_wp2
          go_end0
          exact ⟨⟨_, rfl⟩, .inr ⟨_, trivial, HJ4.out⟩⟩
    · have HJ3 := Lib.hid Jx3
      clear Jx3 y
      gi_wp2
      refine bodyPost_ret (results_none rfl _ _ _) rfl ?_
      exact ⟨⟨_, rfl⟩, .inr ⟨_, trivial, HJ3.out⟩⟩

theorem rightOnes_in (n : Nat) (a : Option Addr) (len cap : Nat) (w : World) :
    CallsIn Fence.wide n Try.prog 24 #[.slice a len cap] w fun e w' => e = .returned (.func (.func 27) #[] #[.pointer (some ⟨w.heap.size, 0, none⟩)]) ∧ w' = w.alloc (.cells #[.slice a len cap] 24) := by
  refine callsIn_of_wp Try.func24 rfl trivial ?_ rfl
  simp only [Try.ntmps24, List.size_toArray, List.length_cons, List.length_nil, Nat.reduceAdd, Nat.reduceSub, Array.replicate_succ, Array.replicate_zero, List.push_toArray, List.append_toArray, List.nil_append, List.cons_append]
  gi_wp2
  go_ret
  exact ⟨rfl, rfl⟩

/-- What a round of the loop keeps. -/
def KpB (n0 : Nat) (V V' : World) : Prop := n0 ≤ V.heap.size → Below n0 V V'
theorem KpB.trans {n0 : Nat} {A B C : World} (h : KpB n0 A B) (k : KpB n0 B C) : KpB n0 A C := fun hA => (h hA).trans (k (Nat.le_trans hA (h hA).size))
def encE (u : Ent) : Array Value := #[.agg #[.int .i64 u.1, .int .i64 u.2.1, .int .i64 u.2.2.1, .int .i64 u.2.2.2]]
set_option maxRecDepth 100000 in
set_option maxHeartbeats 4000000 in
theorem rightIter_in (n : Nat) (hn : 1 ≤ n) (Bs n0 len cap : Nat) (a : Option Addr) (us : List Ent) (hl : us.length = len) (hs : len ≤ 1000) (l : Nat) (J Jx : List Ent → World → Prop) (W : World) (hn0 : n0 ≤ W.heap.size) (hb : W.heap[Bs]? = some (.cells #[.slice a len cap] 24 (0, 0))) (hR : SRow entC 4 n0 W a us)
    (hN : ∀ pre V V', J pre V → Below V.heap.size V V' → J pre V')
    (hY : ∀ pre x V, J pre V → (∃ k, k < len ∧ pre = (us.take k).filter rgE ∧ us[k]? = some x ∧ rgE x = true) → YieldAt Fence.wide (n - 1) Try.prog l (encE x) V fun e V' => (e = .returned (.bool true) ∧ J (pre ++ [x]) V' ∧ KpB n0 V V') ∨ (e = .returned (.bool false) ∧ Jx (pre ++ [x]) V'))
    (h0 : J [] W) :
    CallsIn Fence.wide n Try.prog 27 #[.func (.yield l) #[] #[], .pointer (some ⟨Bs, 0, none⟩)] W fun e W' => (∃ v, e = .returned v) ∧
      ((∃ xs, xs = us.filter rgE ∧ J xs W') ∨ (∃ pre, True ∧ Jx pre W')) := by
  refine callsIn_of_wp Try.func27 rfl trivial ?_ rfl
  simp only [Try.ntmps27, List.size_toArray, List.length_cons, List.length_nil, Nat.reduceAdd, Nat.reduceSub, Array.replicate_succ, Array.replicate_zero, List.push_toArray, List.append_toArray, List.nil_append, List.cons_append]
  have hc := Boxed.cell (show Boxed W Bs 24 (.slice a len cap) from hb)
  have HL := Lib.hid hl
  have HR := Lib.hid hR
  have HN := Lib.hid hN
  have HY := Lib.hid hY
  clear hl hR hN hY hb
  gi_wp2
  gi_loopw [7] (fun i wr => ∃ k : Nat, k ≤ len ∧ i = .int .i64 (k : Nat) ∧ J ((us.take k).filter rgE) wr ∧ Below n0 W wr) (fun i _ => len - (intOf i).toNat)
  case atStart => exact ⟨0, by omega, rfl, h0, Below.refl _ _⟩
  case round =>
    obtain ⟨k, hk, rfl, hJ, hB⟩ := hrel
    have HJ := Lib.hid hJ
    have HB := Lib.hid hB
    clear hJ hB
    by_cases hlt : k < len
    · have hku : k < us.length := by rw [HL.out]; exact hlt
      obtain ⟨a0, off, rfl, ha⟩ := srow_addr HR.out (by omega)
      obtain ⟨q0, q1, q2, q3⟩ := srow_at (HR.out.below HB.out) k hku
      have hk0 : (0 : Int) ≤ (k : Int) := by omega
      have hk1 : (k : Int) < (len : Int) := by omega
      have HX := Lib.hid (show us[k]? = some (us[k]?.getD ent0) by rw [List.getElem?_eq_getElem hku]; rfl)
      have HT := Lib.hid (show (us.take (k + 1)).filter rgE = (us.take k).filter rgE ++ (if rgE (us[k]?.getD ent0) = true then [us[k]?.getD ent0] else []) by
        rw [List.take_add_one, List.getElem?_eq_getElem hku, List.filter_append]
        by_cases h : rgE us[k] = true
        · simp [h]
        · simp [h])
      generalize us[k]?.getD ent0 = u at *
      obtain ⟨u0, u1, u2, u3⟩ := u
      have hd := heap_alloc_new wr (.cells #[.int .i64 0, .int .i64 0, .int .i64 0, .int .i64 0] 23)
      obtain ⟨z0, z1, z2, z3⟩ := ent_cells _ _ _ _ hd
      have f0 := ent_frozen hd 0
      have f1 := ent_frozen hd 1
      have f2 := ent_frozen hd 2
      have f3 := ent_frozen hd 3
      gi_wp2
      clear z0 z1 z2 z3 f0 f1 f2 f3 hd q0 q1 q2 q3
      have hX := heap_alloc_new wr (.cells #[.int .i64 u0, .int .i64 u1, .int .i64 u2, .int .i64 u3] 23)
      have LX := (Below.refl wr.heap.size wr).alloc (Nat.le_refl _) (.cells #[.int .i64 u0, .int .i64 u1, .int .i64 u2, .int .i64 u3] 23)
      generalize wr.alloc (.cells #[.int .i64 u0, .int .i64 u1, .int .i64 u2, .int .i64 u3] 23) = W1 at *
      have KR := Lib.hid (callsIn_wide (n := n - 1).2 (eRight_any u0 u1 u2 u3 W1))
      rw [wpIn_wide]
      refine wp_scope_jumps 0 (fun a' w' => Hid (J ((us.take (k + 1)).filter rgE) w') ∧ Hid (Below n0 W w') ∧ ∃ (v4 v8 v9 v10 v11 v12 v13 v14 v15 v16 v17 v18 : Value), a' = { tmps := #[.func (.yield l) #[] #[], .pointer (some ⟨Bs, 0, none⟩), undef, undef, v4, .slice (some ⟨a0, off, none⟩) len cap, .int .i64 len, .int .i64 k, v8, v9, v10, v11, v12, v13, v14, v15, v16, v17, v18], defers := [] }) (fun _ _ => 0) rfl ?first ?pass
      case pass =>
        rintro a' w' ⟨hJ', hB', v4, v8, v9, v10, v11, v12, v13, v14, v15, v16, v17, v18, rfl⟩
        go_wp2
        simp only [Exit.jump, Exit.inBlock, Exit.then]
        apply_assumption
        gi_wp2
        go_roundw
        case rel => exact ⟨k + 1, by omega, by go_num, hJ'.out, hB'.out⟩
        case measure => simp [intOf]; omega
      case first =>
        rw [← wpIn_wide (n := n)]
        obtain ⟨x0, x1, x2, x3⟩ := ent_cells _ _ _ _ hX
        obtain ⟨r, hr⟩ : ∃ r, rgt u0 u1 u2 u3 = r := ⟨_, rfl⟩
        simp only [rgE, hr] at HT
        rw [hr] at KR
        gi_wp2_with fail
        refine ⟨trivial, KR.out.mono ?_⟩
        rintro e w2 ⟨rfl, m2⟩
        have hX2 := (m2.block _ (Array.getElem?_eq_some_iff.1 hX).1).trans hX
        have L2 := LX.trans (m2.mono LX.size)
        have HJ2 := Lib.hid (HN.out _ _ _ HJ.out L2)
        have HB2 := Lib.hid (HB.out.trans (L2.mono (Nat.le_trans hn0 HB.out.size)))
        clear x0 x1 x2 x3 hX LX m2 KR L2
        obtain ⟨x0, x1, x2, x3⟩ := ent_cells _ _ _ _ hX2
        cases r
        · gi_wp2
          refine wpIn_goto ?_
          exact ⟨rfl, Lib.hid (by rw [HT.out]; simpa using HJ2.out), HB2, _, _, _, _, _, _, _, _, _, _, _, _, rfl⟩
        · obtain ⟨fn, tmps, assign, body, hy, hRd⟩ := HY.out _ (u0, u1, u2, u3) w2 HJ2.out ⟨k, hlt, rfl, HX.out, by simpa [rgE] using hr⟩
          have y := (show (Instr.yield l #[.agg #[.int .i64 u0, .int .i64 u1, .int .i64 u2, .int .i64 u3]]).run Try.prog w2 = .ok (.round l fn tmps assign body) w2 from hy)
          have HRd := Lib.hid hRd
          clear hy hRd hr
          gi_wp2
          refine HRd.out.mono ?_
          clear HRd y
          rintro e W3 (⟨rfl, J3, K3⟩ | ⟨rfl, Jx3⟩)
          · have HJ3 := Lib.hid J3
            have HB3 := Lib.hid (HB2.out.trans (K3 (Nat.le_trans hn0 HB2.out.size)))
            clear J3 K3
            gi_wp2
            refine wpIn_label ?_
            change Exit.jump 0 _ _ Exit.normal _ _
            simp only [Exit.jump, Exit.inBlock, Exit.then]
            apply_assumption
            gi_wp2
            go_roundw
            case rel => exact ⟨k + 1, by omega, by go_num, by rw [HT.out]; simpa using HJ3.out, HB3.out⟩
            case measure => simp [intOf]; omega
          · have HJ3 := Lib.hid Jx3
            clear Jx3
            gi_wp2
            change Exit.jump 0 _ _ Exit.ret _ _
            simp only [Exit.jump, Exit.inBlock, Exit.then]
            change Exit.then _ _ Exit.ret _ _
            simp only [Exit.inBlock, Exit.then]
            refine bodyPost_ret (results_none rfl _ _ _) rfl ?_
            exact ⟨⟨_, rfl⟩, .inr ⟨_, trivial, HJ3.out⟩⟩
    · obtain rfl : k = len := by omega
      have e := Lib.hid (show us.take k = us from List.take_of_length_le (by rw [HL.out]; exact Nat.le_refl _))
      gi_wp2
      go_end0
      exact ⟨⟨_, rfl⟩, .inl ⟨_, rfl, by have h := HJ.out; rwa [e.out] at h⟩⟩
end Go.Proofs.Ytpeaakcapfjncaa
