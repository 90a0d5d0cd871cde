/- Entries: their equality; the document's Ints, Holders, Merge; law's some1. -/
import Derived.Test.YtpeaakcapfjncaaEyA
namespace Go.Proofs.Ytpeaakcapfjncaa
open Go.RowKit Go.Shelf
open SumM

/-- A guard on what was not wanted. -/
theorem guard_undef : yielded.match_1 (motive := fun _ => Option Bool) (some undef) (fun b => some b) (fun _ => none) = none := rfl
attribute [local go_sem] guard_undef

/-- Whether two entries are the same. -/
def eqE (ec ep eg et ec' ep' eg' et' : Int) : Bool := decide (ec = ec' ∧ ep = ep' ∧ eg = eg' ∧ et = et')
theorem eqE_iff {ec ep eg et ec' ep' eg' et' : Int} : eqE ec ep eg et ec' ep' eg' et' = true ↔ (ec, ep, eg, et) = (ec', ep', eg', et') := by simp [eqE]
theorem eqE_same (ec ep eg et : Int) : eqE ec ep eg et ec ep eg et = true := decide_eq_true ⟨rfl, rfl, rfl, rfl⟩

set_option maxRecDepth 100000 in
theorem run_eqE (ec ep eg et : Int) (ec' ep' eg' et' : Int) (W : World) : (Go.binOp .eql 23 (.agg #[.int .i64 ec, .int .i64 ep, .int .i64 eg, .int .i64 et]) (.agg #[.int .i64 ec', .int .i64 ep', .int .i64 eg', .int .i64 et'])).run Try.prog W = .ok (.bool (eqE ec ep eg et ec' ep' eg' et')) W := by
  have hcase : (ec = ec' ∧ ep = ep' ∧ eg = eg' ∧ et = et') ∨ (ec = ec' ∧ ep = ep' ∧ eg = eg' ∧ et ≠ et') ∨ (ec = ec' ∧ ep = ep' ∧ eg ≠ eg') ∨ (ec = ec' ∧ ep ≠ ep') ∨ ec ≠ ec' := by omega
  rcases hcase with ⟨rfl, rfl, rfl, rfl⟩ | ⟨rfl, rfl, rfl, e⟩ | ⟨rfl, rfl, e⟩ | ⟨rfl, e⟩ | e
  · rw [eqE_same]
    go_simp
  all_goals
    first
      | rw [show eqE ec ep eg et ec ep eg et' = false from decide_eq_false (by simp [e])]
      | rw [show eqE ec ep eg et ec ep eg' et' = false from decide_eq_false (by simp [e])]
      | rw [show eqE ec ep eg et ec ep' eg' et' = false from decide_eq_false (by simp [e])]
      | rw [show eqE ec ep eg et ec' ep' eg' et' = false from decide_eq_false (by simp [e])]
    go_simp
set_option maxRecDepth 100000 in
theorem run_neE (ec ep eg et : Int) (ec' ep' eg' et' : Int) (W : World) : (Go.binOp .neq 23 (.agg #[.int .i64 ec, .int .i64 ep, .int .i64 eg, .int .i64 et]) (.agg #[.int .i64 ec', .int .i64 ep', .int .i64 eg', .int .i64 et'])).run Try.prog W = .ok (.bool (!(eqE ec ep eg et ec' ep' eg' et'))) W := by
  have h := run_eqE ec ep eg et ec' ep' eg' et' W
  rw [run_eql_struct] at h
  rw [run_neq_struct]
  generalize (Op.equalIn 10000 23 (.agg #[.int .i64 ec, .int .i64 ep, .int .i64 eg, .int .i64 et]) (.agg #[.int .i64 ec', .int .i64 ep', .int .i64 eg', .int .i64 et'])).run Try.prog W = r at *
  cases r with
  | ok b w' =>
    simp only [Result.andThen_ok, Result.ok.injEq, Value.bool.injEq] at h ⊢
    exact ⟨by rw [h.1], h.2⟩
  | halt x w' => simp [Result.andThen] at h

set_option maxRecDepth 100000 in
set_option maxHeartbeats 400000 in
/-- Ints, of two lists that are the same. -/
theorem r9Ints_any (a b : Option Addr) (len cap cap' B : Nat) (zs : List Int) (w : World) (h : Row .i64 B w a zs) (h' : Row .i64 B w b zs) (hl : zs.length = len) (hs : len ≤ 4000000) :
    Calls Try.prog 16 #[.slice a len cap, .slice b len cap'] w fun e w' => e = .returned (.bool true) ∧ ∃ n, w' = w.drewN n := by
  have HL := Lib.hid hl
  clear hl
  have hne : ((len : Int) != (len : Int)) = false := by simp
  go_enter Try.func16, Try.ntmps16
  go_wp2
  go_loopw [5] (fun i wr => ∃ k : Nat, k ≤ len ∧ i = .int .i64 k ∧ ∃ n, wr = w.drewN n) (fun i _ => len - (intOf i).toNat)
  case atStart => exact ⟨0, Nat.zero_le _, rfl, 0, rfl⟩
  case round =>
    obtain ⟨k, hk, rfl, n, rfl⟩ := hrel
    by_cases hlt : k < len
    · obtain ⟨b1, off1, rfl, _, hc1⟩ := h.2 (by rw [HL.out]; omega)
      obtain ⟨b2, off2, rfl, _, hc2⟩ := h'.2 (by rw [HL.out]; omega)
      have hcx := hc1 k (by rw [HL.out]; omega)
      have hcy := hc2 k (by rw [HL.out]; omega)
      clear hc1 hc2 h h'
      go_wp2
      go_quiet (fail)
      go_wp2
      go_roundw
      case rel => exact ⟨k + 1, by omega, by go_num, _, rfl⟩
      case measure => simp [intOf]; omega
    · obtain rfl : k = len := by omega
      go_wp2
      go_ret
      exact ⟨rfl, n, rfl⟩

/-- Who may have connections. -/
def hols (ec ep : Int) : List Int := (if ec = -1 then [] else [ec]) ++ (if ep = -1 then [] else [ep])
theorem hols_len (ec ep : Int) : (hols ec ep).length ≤ 2 := by
  unfold hols
  split <;> split <;> simp
theorem cell_new1 (W : World) (x : Int) (t : TypeId) : ∀ j u, ([Value.int .i64 x] : List Value)[j]? = some u → (W.alloc (.cells #[.int .i64 x] t)).cell? ((⟨W.heap.size, 0, none⟩ : Addr).add j) = some u := by
  intro j u hu
  rw [addr_add, cell_of_row _ _ _ _ _ _ (heap_alloc_new W _)]
  simpa using hu
theorem Try.infoInt : (Try.prog.info? 3).map (fun i => (i.zero, i.size, i.bytes)) = some (some (.int .i64 0), 1, 8) := by kernel_rfl

set_option maxRecDepth 100000 in
set_option maxHeartbeats 4000000 in
theorem r9Holders_any (ec ep eg et : Int) (H : Ent.ok (ec, ep, eg, et)) (w : World) :
    Calls Try.prog 18 #[.agg #[.int .i64 ec, .int .i64 ep, .int .i64 eg, .int .i64 et]] w (RowRet .i64 (hols ec ep) w) := by
  have bE := heap_alloc_new w (.cells #[.int .i64 ec, .int .i64 ep, .int .i64 eg, .int .i64 et] 23)
  have L0 := Lib.hid ((Below.refl w.heap.size w).alloc (Nat.le_refl _) (.cells #[.int .i64 ec, .int .i64 ep, .int .i64 eg, .int .i64 et] 23))
  have WC : ∀ n ∈ [ec], (Lit.int .i64 n).wf = true := by simpa using wf_i64.2 H.h1
  have WP : ∀ n ∈ [ep], (Lit.int .i64 n).wf = true := by simpa using wf_i64.2 H.h2
  have WB : ∀ n ∈ [ec, ep], (Lit.int .i64 n).wf = true := by simpa using And.intro (wf_i64.2 H.h1) (wf_i64.2 H.h2)
  obtain ⟨q0, q1, q2, q3⟩ := ent_cells _ _ _ _ bE
  obtain ⟨i0, hi, hz0, hz1, hz2⟩ := info_parts Try.infoInt
  go_enter Try.func18, Try.ntmps18
  go_upto_region 1 with (fail)
  generalize w.alloc (.cells #[.int .i64 ec, .int .i64 ep, .int .i64 eg, .int .i64 et] 23) = W0 at *
  by_cases h1 : ec = -1
  · have p1 : (ec != -1) = false := by simp [h1]
    by_cases h2 : ep = -1
    · have p2 : (ep != -1) = false := by simp [h2]
      have e := Lib.hid (show hols ec ep = [] by simp [hols, h1, h2])
      clear h1 h2
      go_wp2
      go_ret
      rw [e.out]
      exact ⟨_, _, rfl, Row.nil _ _ _ _, L0.out⟩
    · have p2 : (ep != -1) = true := by simp [h2]
      have e := Lib.hid (show hols ec ep = [ep] by simp [hols, h1, h2])
      clear h1 h2
      go_wp2_with (at_builtin; refine wpList_append_row _ rfl _ _ 31 rfl w.heap.size 3 i0 (.int .i64 0) 8 Try.underlying31 hi hz0 hz1 hz2 rfl (.slice none 0 0) 0 [] rfl (World.ownsRow_nil _ _ _ _) .i64 (W0.heap.size + 1) (some ⟨W0.heap.size, 0, none⟩) 1 1 [ep] rfl rfl (Row.built .i64 W0 3 [ep] WP) (fun h => by cases h) (by unfold maxLen; omega) (by omega) (by have := L0.out.size; simp; omega) ?_; intro v1 w1 O1 hg1; have L1 := (L0.out.alloc L0.out.size (.cells #[.int .i64 ep] 3)).grown hg1 (by have := L0.out.size; simp; omega) (fun j e => by cases e); obtain ⟨a1, c1, rfl⟩ := own_slice O1)
      go_ret
      rw [e.out]
      exact ⟨_, _, rfl, Row.of_own (zs := [ep]) (by simpa using O1) WP, L1⟩
  · have p1 : (ec != -1) = true := by simp [h1]
    by_cases h2 : ep = -1
    · have p2 : (ep != -1) = false := by simp [h2]
      have e := Lib.hid (show hols ec ep = [ec] by simp [hols, h1, h2])
      clear h1 h2
      go_wp2_with (at_builtin; refine wpList_append_row _ rfl _ _ 31 rfl w.heap.size 3 i0 (.int .i64 0) 8 Try.underlying31 hi hz0 hz1 hz2 rfl (.slice none 0 0) 0 [] rfl (World.ownsRow_nil _ _ _ _) .i64 (W0.heap.size + 1) (some ⟨W0.heap.size, 0, none⟩) 1 1 [ec] rfl rfl (Row.built .i64 W0 3 [ec] WC) (fun h => by cases h) (by unfold maxLen; omega) (by omega) (by have := L0.out.size; simp; omega) ?_; intro v1 w1 O1 hg1; have L1 := (L0.out.alloc L0.out.size (.cells #[.int .i64 ec] 3)).grown hg1 (by have := L0.out.size; simp; omega) (fun j e => by cases e); have bE1 := (hg1.block _ (by have := (Array.getElem?_eq_some_iff.1 bE).1; simp; omega) (by simp [Value.ownBlock])).trans ((Below.heap_alloc W0 (.cells #[.int .i64 ec] 3) _ (Array.getElem?_eq_some_iff.1 bE).1).trans bE); clear q0 q1 q2 q3; obtain ⟨q0, q1, q2, q3⟩ := ent_cells _ _ _ _ bE1; obtain ⟨a1, c1, rfl⟩ := own_slice O1)
      go_ret
      rw [e.out]
      exact ⟨_, _, rfl, Row.of_own (zs := [ec]) (by simpa using O1) WC, L1⟩
    · have p2 : (ep != -1) = true := by simp [h2]
      have e := Lib.hid (show hols ec ep = [ec, ep] by simp [hols, h1, h2])
      clear h1 h2
      go_upto_region 4 with (at_builtin; refine wpList_append_row _ rfl _ _ 31 rfl w.heap.size 3 i0 (.int .i64 0) 8 Try.underlying31 hi hz0 hz1 hz2 rfl (.slice none 0 0) 0 [] rfl (World.ownsRow_nil _ _ _ _) .i64 (W0.heap.size + 1) (some ⟨W0.heap.size, 0, none⟩) 1 1 [ec] rfl rfl (Row.built .i64 W0 3 [ec] WC) (fun h => by cases h) (by unfold maxLen; omega) (by omega) (by have := L0.out.size; simp; omega) ?_; intro v1 w1 O1 hg1; have L1 := (L0.out.alloc L0.out.size (.cells #[.int .i64 ec] 3)).grown hg1 (by have := L0.out.size; simp; omega) (fun j e => by cases e); have bE1 := (hg1.block _ (by have := (Array.getElem?_eq_some_iff.1 bE).1; simp; omega) (by simp [Value.ownBlock])).trans ((Below.heap_alloc W0 (.cells #[.int .i64 ec] 3) _ (Array.getElem?_eq_some_iff.1 bE).1).trans bE); clear q0 q1 q2 q3; obtain ⟨q0, q1, q2, q3⟩ := ent_cells _ _ _ _ bE1)
      go_wp2_with (at_builtin; refine wpList_append_row _ rfl _ _ 31 rfl w.heap.size 3 i0 (.int .i64 0) 8 Try.underlying31 hi hz0 hz1 hz2 rfl v1 (0 + 1) _ rfl (O1.alloc _) .i64 (w1.heap.size + 1) (some ⟨w1.heap.size, 0, none⟩) 1 1 [ep] rfl rfl (Row.built .i64 w1 3 [ep] WP) (fun h => by cases h) (by unfold maxLen; omega) (by omega) (by have := L1.size; simp; omega) ?_; intro v2 w2 O2 hg2; have L2 := (L1.alloc L1.size (.cells #[.int .i64 ep] 3)).grown hg2 (by have := L1.size; simp; omega) (fun j e => (O1.lt j e).1); obtain ⟨a2, c2, rfl⟩ := own_slice O2)
      go_ret
      rw [e.out]
      exact ⟨_, _, rfl, Row.of_own (zs := [ec, ep]) (by simpa using O2) WB, L2⟩

/-- Whether an entry may be; which of some is the newest one, so far, and whether there is one. -/
def rgE (u : Ent) : Bool := rgt u.1 u.2.1 u.2.2.1 u.2.2.2
def mgStep (o : Ent × Bool) (u : Ent) : Ent × Bool := if (rgE u && (!o.2 || decide (o.1.2.2.1 < u.2.2.1))) = true then (u, true) else o
def mgS (l : List Ent) : Ent × Bool := l.foldl mgStep (noEnt, false)
theorem mgS_snoc (l : List Ent) (u : Ent) : mgS (l ++ [u]) = mgStep (mgS l) u := by simp [mgS, List.foldl_append]
theorem mgS_take {us : List Ent} {k : Nat} (h : k < us.length) : mgS (us.take (k + 1)) = mgStep (mgS (us.take k)) (us[k]?.getD ent0) := by
  rw [List.take_add_one, List.getElem?_eq_getElem h]
  exact mgS_snoc _ _
/-- An element of a slice of entries. -/
theorem srow_at {B b off : Nat} {w : World} {us : List Ent} (h : SRow entC 4 B w (some ⟨b, off, none⟩) us) (k : Nat) (hk : k < us.length) :
    w.cell? ⟨b, off + k * 4, none⟩ = some (.int .i64 (us[k]?.getD ent0).1) ∧ w.cell? ⟨b, off + k * 4 + 1, none⟩ = some (.int .i64 (us[k]?.getD ent0).2.1) ∧ w.cell? ⟨b, off + k * 4 + 2, none⟩ = some (.int .i64 (us[k]?.getD ent0).2.2.1) ∧ w.cell? ⟨b, off + k * 4 + 3, none⟩ = some (.int .i64 (us[k]?.getD ent0).2.2.2) := by
  obtain ⟨b', off', e, _, hc⟩ := h (by omega)
  injection e with e
  injection e with e1 e2
  subst e1 e2
  rw [List.getElem?_eq_getElem hk]
  exact ⟨hc k hk 0 _ rfl, hc k hk 1 _ rfl, hc k hk 2 _ rfl, hc k hk 3 _ rfl⟩
theorem srow_addr {B : Nat} {w : World} {a : Option Addr} {us : List Ent} (h : SRow entC 4 B w a us) (hl : 0 < us.length) : ∃ b off, a = some ⟨b, off, none⟩ ∧ b < B := by
  obtain ⟨b, off, e, hb, _⟩ := h hl
  exact ⟨b, off, e, hb⟩

set_option maxRecDepth 100000 in
set_option maxHeartbeats 4000000 in
theorem some1_any (a : Option Addr) (len cap : Nat) (us : List Ent) (hl : us.length = len) (hs : len ≤ 1000) (w : World) (h : SRow entC 4 w.heap.size w a us) :
    Calls Try.prog 21 #[.slice a len cap] w fun e w' => e = .returned (.bool (us.any rgE)) ∧ Below w.heap.size w w' := by
  have HL := Lib.hid hl
  have HR := Lib.hid h
  clear hl h
  go_enter Try.func21, Try.ntmps21
  go_wp2
  go_loopw [3] (fun i wr => ∃ k : Nat, k ≤ len ∧ i = .int .i64 k ∧ (us.take k).any rgE = false ∧ Below w.heap.size w wr) (fun i _ => len - (intOf i).toNat)
  case atStart => exact ⟨0, Nat.zero_le _, rfl, by simp, Below.refl _ _⟩
  case round =>
    obtain ⟨k, hk, rfl, hn, L⟩ := hrel
    have HN := Lib.hid hn
    have HB := Lib.hid L
    clear hn L
    by_cases hlt : k < len
    · have hku : k < us.length := by rw [HL.out]; exact hlt
      obtain ⟨b, off, rfl, _⟩ := srow_addr HR.out (by omega)
      obtain ⟨q0, q1, q2, q3⟩ := srow_at (HR.out.below HB.out) k hku
      have HT := Lib.hid (show (us.take (k + 1)).any rgE = rgE (us[k]?.getD ent0) by
        rw [List.take_add_one, List.getElem?_eq_getElem hku, List.any_append, HN.out]
        simp)
      have HU := Lib.hid (show rgE (us[k]?.getD ent0) = true → us.any rgE = true by
        intro hx
        rw [List.getElem?_eq_getElem hku] at hx
        exact List.any_eq_true.2 ⟨_, List.getElem_mem hku, hx⟩)
      have hk0 : (0 : Int) ≤ (k : Int) := by omega
      have hk1 : (k : Int) < (len : Int) := by omega
      generalize us[k]?.getD ent0 = u at *
      obtain ⟨u0, u1, u2, u3⟩ := u
      have KR := Lib.hid (r9Right_any u0 u1 u2 u3 wr)
      simp only [rgE] at HT HU
      generalize rgt u0 u1 u2 u3 = r at *
      cases r
      · go_wp2_with (go_at_call 9; (with_reducible refine KR.out.mono ?_); rintro e w1 ⟨rfl, m1⟩)
        go_roundw
        case rel => exact ⟨k + 1, by omega, by go_num, HT.out, HB.out.trans (m1.mono HB.out.size)⟩
        case measure => simp [intOf]; omega
      · go_wp2_with (go_at_call 9; (with_reducible refine KR.out.mono ?_); rintro e w1 ⟨rfl, m1⟩)
        go_ret
        exact ⟨ret_bool (HU.out trivial).symm, HB.out.trans (m1.mono HB.out.size)⟩
    · obtain rfl : k = len := by omega
      go_wp2
      go_ret
      have e := HN.out
      rw [List.take_of_length_le (by rw [HL.out]; exact Nat.le_refl _)] at e
      exact ⟨ret_bool e.symm, HB.out⟩

set_option maxRecDepth 100000 in
set_option maxHeartbeats 4000000 in
theorem r9Merge_any (a : Option Addr) (len cap : Nat) (us : List Ent) (hl : us.length = len) (hs : len ≤ 1000) (w : World) (h : SRow entC 4 w.heap.size w a us) :
    Calls Try.prog 13 #[.slice a len cap] w fun e w' => e = .returned (.agg #[.int .i64 (mgS us).1.1, .int .i64 (mgS us).1.2.1, .int .i64 (mgS us).1.2.2.1, .int .i64 (mgS us).1.2.2.2]) ∧ Below w.heap.size w w' := by
  have HL := Lib.hid hl
  have HR := Lib.hid h
  clear hl h
  have bO := heap_alloc_new w (.cells #[.int .i64 0, .int .i64 0, .int .i64 0, .int .i64 0] 23)
  have L0 := (Below.refl w.heap.size w).alloc (Nat.le_refl _) (.cells #[.int .i64 0, .int .i64 0, .int .i64 0, .int .i64 0] 23)
  go_enter Try.func13, Try.ntmps13
  go_wp2_with fail
  generalize w.alloc (.cells #[.int .i64 0, .int .i64 0, .int .i64 0, .int .i64 0] 23) = W0 at *
  refine (r9None_any _).mono ?_
  rintro e w1 ⟨rfl, m1⟩
  have bO1 := Lib.hid ((m1.block _ (Array.getElem?_eq_some_iff.1 bO).1).trans bO)
  have L1 := Lib.hid (L0.trans (m1.mono L0.size))
  clear bO L0 m1
  go_wp2
  have hz : w.heap.size < w1.heap.size := (Array.getElem?_eq_some_iff.1 bO1.out).1
  have bN := heap_alloc_new w1 (.cells #[.int .i64 (-1), .int .i64 (-1), .int .i64 0, .int .i64 0] 23)
  have bO2 := (Below.heap_alloc w1 (.cells #[.int .i64 (-1), .int .i64 (-1), .int .i64 0, .int .i64 0] 23) _ hz).trans bO1.out
  have L2 := L1.out.alloc L1.out.size (.cells #[.int .i64 (-1), .int .i64 (-1), .int .i64 0, .int .i64 0] 23)
  have HZ := Lib.hid hz
  clear bO1 L1 hz
  generalize w1.alloc (.cells #[.int .i64 (-1), .int .i64 (-1), .int .i64 0, .int .i64 0] 23) = W1 at *
  generalize w1.heap.size = b at *
  go_loopw [4, 5] (fun s i wr => ∃ k : Nat, k ≤ len ∧ i = .int .i64 k ∧ s = .bool (mgS (us.take k)).2 ∧ wr.heap[b]? = some (.cells #[.int .i64 (mgS (us.take k)).1.1, .int .i64 (mgS (us.take k)).1.2.1, .int .i64 (mgS (us.take k)).1.2.2.1, .int .i64 (mgS (us.take k)).1.2.2.2] 23 (0, 0)) ∧
    wr.heap[w.heap.size]? = some (.cells #[.int .i64 0, .int .i64 0, .int .i64 0, .int .i64 0] 23 (0, 0)) ∧ Below w.heap.size w wr) (fun _ i _ => len - (intOf i).toNat)
  case atStart => exact ⟨0, Nat.zero_le _, rfl, rfl, bN, bO2, L2⟩
  case round =>
    obtain ⟨k, hk, rfl, rfl, hb, ho, L⟩ := hrel
    clear bN bO2 L2
    have HO := Lib.hid ho
    have HB := Lib.hid L
    clear ho L
    by_cases hlt : k < len
    · have hku : k < us.length := by rw [HL.out]; exact hlt
      obtain ⟨a0, off, rfl, ha⟩ := srow_addr HR.out (by omega)
      obtain ⟨q0, q1, q2, q3⟩ := srow_at (HR.out.below HB.out) k hku
      have HT := Lib.hid (mgS_take hku)
      have hk0 : (0 : Int) ≤ (k : Int) := by omega
      have hk1 : (k : Int) < (len : Int) := by omega
      have haw : a0 < wr.heap.size := Nat.lt_of_lt_of_le ha HB.out.size
      generalize us[k]?.getD ent0 = u at *
      generalize mgS (us.take k) = m at *
      obtain ⟨u0, u1, u2, u3⟩ := u
      obtain ⟨⟨o0, o1, o2, o3⟩, s⟩ := m
      simp only at hb q0 q1 q2 q3
      obtain ⟨r, hr⟩ : ∃ r, rgt u0 u1 u2 u3 = r := ⟨_, rfl⟩
      obtain ⟨n, hn⟩ : ∃ n, decide (o2 < u2) = n := ⟨_, rfl⟩
      have KR := Lib.hid (fun W => hr ▸ r9Right_any u0 u1 u2 u3 W)
      have KN := Lib.hid (fun W => hn ▸ r9Newer_any u0 u1 u2 u3 o0 o1 o2 o3 W)
      simp only [mgStep, rgE, hr, hn] at HT
      clear hr hn
      have hbw : b < wr.heap.size := (Array.getElem?_eq_some_iff.1 hb).1
      have CF := Lib.hid (fun W (g : Below wr.heap.size wr W) => show (W.cell? ⟨a0, off + k * 4, none⟩ = some (.int .i64 u0) ∧ W.cell? ⟨a0, off + k * 4 + 1, none⟩ = some (.int .i64 u1) ∧ W.cell? ⟨a0, off + k * 4 + 2, none⟩ = some (.int .i64 u2) ∧ W.cell? ⟨a0, off + k * 4 + 3, none⟩ = some (.int .i64 u3)) ∧ (W.heap[b]? = some (.cells #[.int .i64 o0, .int .i64 o1, .int .i64 o2, .int .i64 o3] 23 (0, 0))) from
        ⟨⟨(g.cell (p := ⟨a0, off + k * 4, none⟩) haw).trans q0, (g.cell (p := ⟨a0, off + k * 4 + 1, none⟩) haw).trans q1, (g.cell (p := ⟨a0, off + k * 4 + 2, none⟩) haw).trans q2, (g.cell (p := ⟨a0, off + k * 4 + 3, none⟩) haw).trans q3⟩, (g.block _ hbw).trans hb⟩)
      have CG := Lib.hid (fun W (g : Below wr.heap.size wr W) => show W.cell? ⟨a0, off + k * 4, none⟩ = some (.int .i64 u0) ∧ W.cell? ⟨a0, off + k * 4 + 1, none⟩ = some (.int .i64 u1) ∧ W.cell? ⟨a0, off + k * 4 + 2, none⟩ = some (.int .i64 u2) ∧ W.cell? ⟨a0, off + k * 4 + 3, none⟩ = some (.int .i64 u3) ∧ W.cell? ⟨b, 0, none⟩ = some (.int .i64 o0) ∧ W.cell? ⟨b, 1, none⟩ = some (.int .i64 o1) ∧ W.cell? ⟨b, 2, none⟩ = some (.int .i64 o2) ∧ W.cell? ⟨b, 3, none⟩ = some (.int .i64 o3) from
        ⟨(CF.out W g).1.1, (CF.out W g).1.2.1, (CF.out W g).1.2.2.1, (CF.out W g).1.2.2.2, ent_cells _ _ _ _ (CF.out W g).2⟩)
      clear q0 q1 q2 q3 hb
      have n0 := (Below.refl wr.heap.size wr).drew
      go_wp2_with fail
      have nc := n0
      obtain ⟨x0, x1, x2, x3, y0, y1, y2, y3⟩ := CG.out _ nc
      go_cut [29] (fun v wx => v = .bool (r && (!s || n)) ∧ Below wr.heap.size wr wx)
      case first =>
        cases r
        case false =>
          first
            | (go_region_with (first | (go_at_call 9; (with_reducible refine (KR.out _).mono ?_); rintro e w2 ⟨rfl, m2⟩; have nc := nc.trans (m2.mono nc.size); obtain ⟨x0, x1, x2, x3, y0, y1, y2, y3⟩ := CG.out _ nc)))
            | fail "W"
          all_goals (go_wp2_with fail; go_meet; exact ⟨rfl, nc⟩)
        cases s
        all_goals
          first
            | (go_region_with (first | (go_at_call 9; (with_reducible refine (KR.out _).mono ?_); rintro e w2 ⟨rfl, m2⟩; have nc := nc.trans (m2.mono nc.size); obtain ⟨x0, x1, x2, x3, y0, y1, y2, y3⟩ := CG.out _ nc) | (go_at_call 11; (with_reducible refine (KN.out _).mono ?_); rintro e w3 ⟨rfl, m3⟩; have nc := nc.trans (m3.mono nc.size))))
            | fail "W"
          all_goals (go_wp2_with fail; go_meet; exact ⟨rfl, nc⟩)
      case rest =>
        obtain ⟨rfl, nd⟩ := hcut
        have HZ2 := Lib.hid (HB.out.trans (nd.mono HB.out.size))
        have hwb : w.heap.size < b := HZ.out
        have hOx := Lib.hid ((nd.block _ (by omega)).trans HO.out)
        obtain ⟨⟨z0, z1, z2, z3⟩, hbx⟩ := CF.out _ nd
        clear n0 nc x0 x1 x2 x3 y0 y1 y2 y3 CF CG nd KR KN
        generalize (r && (!s || n)) = t at *
        cases t
        · have HBX := Lib.hid hbx
          go_wp2
          go_roundw
          case rel => exact ⟨k + 1, by omega, by go_num, by rw [HT.out]; rfl, by rw [HT.out]; exact HBX.out, hOx.out, HZ2.out⟩
          case measure => simp [intOf]; omega
        · have f0 := ent_frozen hbx 0
          have f1 := ent_frozen hbx 1
          have f2 := ent_frozen hbx 2
          have f3 := ent_frozen hbx 3
          obtain ⟨y0, y1, y2, y3⟩ := ent_cells _ _ _ _ hbx
          have HBX := Lib.hid hbx
          clear hbx
          go_wp2
          go_roundw
          case rel => exact ⟨k + 1, by omega, by go_num, by rw [HT.out]; rfl, by rw [HT.out]; exact full_setCells HBX.out [.int .i64 u0, .int .i64 u1, .int .i64 u2, .int .i64 u3] rfl, ((((Below.heap_setCell _ _ _ _ (by simp; omega)).trans (Below.heap_setCell _ _ _ _ (by simp; omega))).trans (Below.heap_setCell _ _ _ _ (by simp; omega))).trans (Below.heap_setCell _ _ _ _ (by simp; omega))).trans hOx.out, below_setCells b (Nat.le_of_lt hwb) [.int .i64 u0, .int .i64 u1, .int .i64 u2, .int .i64 u3] 0 w _ HZ2.out⟩
          case measure => simp [intOf]; omega
    · obtain rfl : k = len := by omega
      have e := Lib.hid (show us.take k = us from List.take_of_length_le (by rw [HL.out]; exact Nat.le_refl _))
      rw [e.out] at hb
      obtain ⟨x0, x1, x2, x3⟩ := ent_cells _ _ _ _ hb
      obtain ⟨y0, y1, y2, y3⟩ := ent_cells _ _ _ _ HO.out
      have f0 := ent_frozen HO.out 0
      have f1 := ent_frozen HO.out 1
      have f2 := ent_frozen HO.out 2
      have f3 := ent_frozen HO.out 3
      go_wp2
      exact bodyPost_ret (results_ent rfl _ _ w.heap.size _ (0, 0) rfl (full_setCells HO.out [.int .i64 (mgS us).1.1, .int .i64 (mgS us).1.2.1, .int .i64 (mgS us).1.2.2.1, .int .i64 (mgS us).1.2.2.2] rfl) rfl) rfl ⟨rfl, below_setCells w.heap.size (Nat.le_refl _) [.int .i64 (mgS us).1.1, .int .i64 (mgS us).1.2.1, .int .i64 (mgS us).1.2.2.1, .int .i64 (mgS us).1.2.2.2] 0 w _ HB.out⟩
end Go.Proofs.Ytpeaakcapfjncaa
