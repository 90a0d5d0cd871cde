/- 'handfastlaw09.EntryMerges' returns true at every slice of entries and place, and leaves what lay as it lay. -/
import Derived.Test.YtpeaakcapfjncaaEyM
import Derived.Test.YtpeaakcapfjncaaEyL
namespace Go.Proofs.Ytpeaakcapfjncaa
open Go.RowKit Go.Shelf
open SumM

theorem srow_take {B : Nat} {w : World} {a : Option Addr} {us : List Ent} (h : SRow entC 4 B w a us) (i : Nat) : SRow entC 4 B w a (us.take i) := fun hl => by
  have hl2 : 0 < us.length := by simp at hl; omega
  obtain ⟨b, off, e, hb, hc⟩ := h hl2
  refine ⟨b, off, e, hb, fun j hj r v hv => ?_⟩
  have hj2 : j < us.length := by simp at hj; omega
  refine hc j hj2 r v ?_
  rwa [List.getElem_take] at hv
theorem srow_drop {B b off : Nat} {w : World} {us : List Ent} (h : SRow entC 4 B w (some ⟨b, off, none⟩) us) (i : Nat) : SRow entC 4 B w (some ⟨b, off + i * 4, none⟩) (us.drop i) := fun hl => by
  have hl2 : i < us.length := by simp at hl; omega
  obtain ⟨b', off', e, hb, hc⟩ := h (by omega)
  injection e with e
  injection e with e1 e2
  subst e1 e2
  refine ⟨b, off + i * 4, rfl, hb, fun j hj r v hv => ?_⟩
  have hj2 : i + j < us.length := by simp at hj; omega
  rw [List.getElem_drop] at hv
  have := hc (i + j) hj2 r v hv
  rwa [show off + i * 4 + j * 4 + r = off + (i + j) * 4 + r by omega]

theorem step_append_srow {P : Program} (w : World) {ops : Array Oper} {o : Oper} {a : Act} {K : Act → World → Prop} {Q : Exit → Act → World → Prop} {E : Prop} (hw : Region.wanted o (yielded ops a.tmps) = true) (s x : Operand) (t : TypeId)
    (ho : o.op = .call { callee := .builtin .append, args := #[s, x], argTypes := #[t, t] })
    (base : Nat) (e : TypeId) (i : TypeInfo) (z : Value) (bytes : Nat) (ht : P.underlying t = some (.slice e)) (hi : P.info? e = some i) (hz : i.zero = some z)
    (hsize : i.size = 4) (hby : i.bytes = bytes) (hzs : z.cells.size = 4)
    (v : Value) (n : Nat) (us : List Ent) (hs : a.eval s = v) (hown : w.ownsRow base e 4 v n (flatS entC us))
    (B : Nat) (ad : Addr) (m c : Nat) (zs : List Ent) (hx : a.eval x = .slice (some ad) m c) (hl : zs.length = m) (hr : SRow entC 4 B w (some ad) zs)
    (h63 : n + m ≤ maxLen) (hbytes : (n + m) * bytes ≤ 140737488355328) (hbase : base ≤ w.heap.size)
    (h : ∀ v' w', w'.ownsRow base e 4 v' (n + m) (flatS entC (us ++ zs)) → w.grownBy w' v.ownBlock → K (a.put o.dst v') w') :
    if Region.wanted o (yielded ops a.tmps) = true then Oper.wp P o a w K Q else E := by
  rw [if_pos hw]
  refine wp_append_own w s x t ho base e i z 4 bytes ht hi hz hsize hby hzs (by decide) v n _ hs hown ad m c (flatS entC zs) hx (by rw [flatS_length entC_len, hl]) (hr.cells entC_len (by decide)) (flatS_one entC_one zs) h63 hbytes hbase fun v' w' h2 h3 _ => h v' w' ?_ h3
  rw [flatS_append]
  exact h2
theorem own_one (w : World) (base : Nat) (hb : base ≤ w.heap.size) (e : TypeId) (u : Ent) : (w.alloc (.cells #[.int .i64 u.1, .int .i64 u.2.1, .int .i64 u.2.2.1, .int .i64 u.2.2.2] e)).ownsRow base e 4 (.slice (some ⟨w.heap.size, 0, none⟩) 1 1) 1 (flatS entC [u]) :=
  ⟨rfl, .inr ⟨w.heap.size, 1, #[.int .i64 u.1, .int .i64 u.2.1, .int .i64 u.2.2.1, .int .i64 u.2.2.2], rfl, hb, heap_alloc_new w _, Nat.le_refl _, by unfold maxLen; omega, rfl, rfl⟩⟩
theorem mergeTwo {x0 x1 x2 x3 : Int} (hx : rgE (x0, x1, x2, x3) = true) (W : World) : Calls Try.prog 12 #[.slice (some ⟨W.heap.size, 0, none⟩) 2 2] (W.alloc (.cells #[.int .i64 x0, .int .i64 x1, .int .i64 x2, .int .i64 x3, .int .i64 x0, .int .i64 x1, .int .i64 x2, .int .i64 x3] 23)) fun e w' => e = .returned (.agg #[.int .i64 x0, .int .i64 x1, .int .i64 x2, .int .i64 x3]) ∧ Below W.heap.size W w' := by
  have L := (Below.refl W.heap.size W).alloc (Nat.le_refl _) (.cells #[.int .i64 x0, .int .i64 x1, .int .i64 x2, .int .i64 x3, .int .i64 x0, .int .i64 x1, .int .i64 x2, .int .i64 x3] 23)
  have h := eMerge_any (some ⟨W.heap.size, 0, none⟩) 2 2 [(x0, x1, x2, x3), (x0, x1, x2, x3)] rfl (by omega) _ ((SRow.two W 23 (x0, x1, x2, x3) (x0, x1, x2, x3)).more (by simp))
  rw [merge_twice _ hx] at h
  exact h.mono fun _ _ ⟨h1, h2⟩ => ⟨h1, L.trans (h2.mono L.size)⟩

set_option maxRecDepth 100000 in
set_option maxHeartbeats 16000000 in
theorem eyMerges_walk (a : Option Addr) (len cap : Nat) (us : List Ent) (at0 : Int) (w : World) (R : IsERow w a len cap us) (_hn0 : (Lit.int .i64 at0).wf = true) :
    Calls Try.prog 4 #[.slice a len cap, .int .i64 at0] w fun e w' => e = .returned (.bool true) ∧ Below w.heap.size w w' := by
  have TW := Lib.hid (fun W => ewakes_any W)
  go_enter Try.func4, Try.ntmps4
  by_cases hlen : 60 < len
  · have p1 : decide ((60 : Int) < (len : Int)) = true := decide_eq_true (by omega)
    have p1' : decide (60 < len) = true := decide_eq_true hlen
    go_wp2_with (go_at_call 7; (with_reducible refine (TW.out _).mono ?_); rintro e w4 ⟨rfl, m4⟩)
    go_ret
    exact ⟨rfl, m4⟩
  have p1 : decide ((60 : Int) < (len : Int)) = false := decide_eq_false (by omega)
  have p1' : decide (60 < len) = false := decide_eq_false hlen
  obtain ⟨t, ht, hta⟩ : ∃ t : Nat, t ≤ len ∧ min (max at0 0) (len : Int) = (t : Int) := ⟨(min (max at0 0) (len : Int)).toNat, by omega, by omega⟩
  go_upto_region 3 with (fail)
  go_cut [1] (fun v wx => v = .int .i64 (t : Nat) ∧ wx = w)
  case first =>
    go_wp2
    all_goals
      go_meet
      exact ⟨congrArg (Value.int .i64) (by omega), rfl⟩
  case rest =>
    obtain ⟨rfl, rfl⟩ := hcut
    have hR := R.row
    have hl := R.hl
    have hnil := R.hn
    have hcap := R.hc
    have F0 : ∀ k, k < us.length → rgE (us[k]?.getD ent0) = true → (us[k]?.getD ent0).2.2.1 ≤ (mgS us).1.2.2.1 ∧ (smK us k = false → (us[k]?.getD ent0).2.2.1 = (mgS us).1.2.2.1 → us[k]?.getD ent0 = (mgS us).1) ∧ smK us (k + 1) = (smK us k || decide ((us[k]?.getD ent0).2.2.1 = (mgS us).1.2.2.1)) := fun k hk h => smK_yes hk h
    have F1 := smK_end us
    have F2 := mgS_none us
    have F3 := mgS_right us
    have F4 : (us.take t).any rgE = false → (mgS (us.drop t)).1 = (mgS us).1 := fun h => by rw [merge_rest _ (us.drop t) h, List.take_append_drop]
    have F5 : (us.take t).any rgE = true → (mgS ((mgS (us.take t)).1 :: us.drop t)).1 = (mgS us).1 := fun h => by rw [merge_head _ (us.drop t) h, List.take_append_drop]
    have F6 : (mgS us).2 = true → (mgS [(mgS us).1, (mgS us).1]).1 = (mgS us).1 := fun h => by rw [merge_twice _ (F3 h)]
    have K1 := Lib.hid (eMerge_any a len cap us hl (by omega) wc hR)
    obtain ⟨M, hM⟩ : ∃ M, (mgS us).1 = M := ⟨_, rfl⟩
    rw [hM] at F0 F2 F3 F4 F5 F6 K1
    obtain ⟨m0, m1, m2, m3⟩ := M
    simp only at F0 K1
    have HF := Lib.hid (And.intro F0 (And.intro F1 (And.intro F2 (And.intro F3 (And.intro F4 (And.intro F5 F6))))))
    have HR := Lib.hid (And.intro hR (And.intro hl (And.intro hnil hcap)))
    clear F0 F1 F2 F3 F4 F5 F6 hR hl hnil hcap R hM
    go_wp2_with fail
    refine K1.out.mono ?_
    rintro e w1 ⟨rfl, n1⟩
    clear K1
    go_wp2_with fail
    have bM := heap_alloc_new w1 (.cells #[.int .i64 m0, .int .i64 m1, .int .i64 m2, .int .i64 m3] 23)
    have L1 := n1.alloc n1.size (.cells #[.int .i64 m0, .int .i64 m1, .int .i64 m2, .int .i64 m3] 23)
    have hbw : wc.heap.size ≤ w1.heap.size := n1.size
    clear n1
    generalize w1.alloc (.cells #[.int .i64 m0, .int .i64 m1, .int .i64 m2, .int .i64 m3] 23) = W1 at *
    generalize w1.heap.size = b at *
    go_loopw [6, 7] (fun s i wr => ∃ k : Nat, k ≤ len ∧ i = .int .i64 k ∧ s = .bool (smK us k) ∧ wr.heap[b]? = some (.cells #[.int .i64 m0, .int .i64 m1, .int .i64 m2, .int .i64 m3] 23 (0, 0)) ∧ Below wc.heap.size wc wr) (fun _ i _ => len - (intOf i).toNat)
    case atStart => exact ⟨0, Nat.zero_le _, rfl, by rw [smK_zero], bM, L1⟩
    case round =>
      obtain ⟨k, hk, rfl, rfl, hb, L⟩ := hrel
      clear bM L1
      have HB := Lib.hid L
      clear L
      by_cases hlt : k < len
      · have hku : k < us.length := by rw [HR.out.2.1]; exact hlt
        obtain ⟨a0, off, rfl, ha⟩ := srow_addr HR.out.1 (by omega)
        have hq := srow_at (HR.out.1.below HB.out) k hku
        have HNo := Lib.hid (fun h => smK_no (us := us) hku h)
        have HYes := Lib.hid (HF.out.1 k hku)
        have hk0 : (0 : Int) ≤ (k : Int) := by omega
        have hk1 : (k : Int) < (len : Int) := by omega
        have haw : a0 < wr.heap.size := Nat.lt_of_lt_of_le ha HB.out.size
        generalize us[k]?.getD ent0 = u at *
        generalize smK us k = s at *
        obtain ⟨u0, u1, u2, u3⟩ := u
        obtain ⟨q0, q1, q2, q3⟩ := hq
        simp only at q0 q1 q2 q3
        simp only [rgE] at HNo HYes
        obtain ⟨r, hr⟩ : ∃ r, rgt u0 u1 u2 u3 = r := ⟨_, rfl⟩
        have KR := Lib.hid (hr ▸ r9Right_any u0 u1 u2 u3 wr)
        rw [hr] at HNo HYes
        clear hr
        have hbb : b < wr.heap.size := (Array.getElem?_eq_some_iff.1 hb).1
        cases r
        case false =>
          have HB0 := Lib.hid hb
          clear hb
          go_wp2_with (go_at_call 9; (with_reducible refine KR.out.mono ?_); rintro e w2 ⟨rfl, m2'⟩)
          go_roundw
          case rel => exact ⟨k + 1, by omega, by go_num, by rw [HNo.out trivial], (m2'.block _ hbb).trans HB0.out, HB.out.trans (m2'.mono HB.out.size)⟩
          case measure => simp [intOf]; omega
        case true =>
          obtain ⟨hy1, hy2, hy3⟩ := HYes.out rfl
          have g1 : decide (m2 < u2) = false := decide_eq_false (by omega)
          obtain ⟨g, hg⟩ : ∃ g, (u2 == m2) = g := ⟨_, rfl⟩
          have hgd : decide (u2 = m2) = g := by rw [← hg]; rfl
          rw [hgd] at hy3
          have HN2 := Lib.hid hy3
          have hne : s = false → g = true → ∀ W' : World, (Go.binOp .neq 23 (.agg #[.int .i64 u0, .int .i64 u1, .int .i64 u2, .int .i64 u3]) (.agg #[.int .i64 m0, .int .i64 m1, .int .i64 m2, .int .i64 m3])).run Try.prog W' = .ok (.bool false) W' := fun h1 h2 W' => by
            have e := hy2 h1 (by rw [h2] at hg; simpa using hg)
            injection e with e0 e
            injection e with e1 e
            injection e with e2 e3
            subst e0 e1 e2 e3
            have h := run_neE u0 u1 u2 u3 u0 u1 u2 u3 W'
            rwa [eqE_same] at h
          have HNE := Lib.hid hne
          clear hy1 hy2 hy3 hne hgd HYes HNo
          go_upto_region 10 with (go_at_call 9; (with_reducible refine KR.out.mono ?_); rintro e w2 ⟨rfl, m2'⟩)
          have hb2 := (m2'.block _ hbb).trans hb
          have HB2 := Lib.hid (HB.out.trans (m2'.mono HB.out.size))
          have z0 := (m2'.cell (p := ⟨a0, off + k * 4, none⟩) haw).trans q0
          have z1 := (m2'.cell (p := ⟨a0, off + k * 4 + 1, none⟩) haw).trans q1
          have z2 := (m2'.cell (p := ⟨a0, off + k * 4 + 2, none⟩) haw).trans q2
          have z3 := (m2'.cell (p := ⟨a0, off + k * 4 + 3, none⟩) haw).trans q3
          clear q0 q1 q2 q3 hb m2' KR
          obtain ⟨y0, y1, y2, y3⟩ := ent_cells _ _ _ _ hb2
          have HBB := Lib.hid hb2
          clear hb2
          cases s
          · cases g
            · go_wp2
              go_quiet (fail)
              go_wp2
              go_quiet (fail)
              go_wp2
              go_roundw
              case rel => exact ⟨k + 1, by omega, by go_num, by rw [HN2.out]; rfl, HBB.out, ⟨HB2.out.os, HB2.out.tape, HB2.out.output, HB2.out.size, HB2.out.block⟩⟩
              case measure => simp [intOf]; omega
            · have hne := HNE.out rfl rfl
              go_wp2
              go_quiet (fail)
              go_wp2
              go_quiet (fail)
              go_wp2
              go_roundw
              case rel => exact ⟨k + 1, by omega, by go_num, by rw [HN2.out]; rfl, HBB.out, ⟨HB2.out.os, HB2.out.tape, HB2.out.output, HB2.out.size, HB2.out.block⟩⟩
              case measure => simp [intOf]; omega
          · go_wp2
            go_quiet (fail)
            go_wp2
            go_quiet (fail)
            go_wp2
            go_roundw
            case rel => exact ⟨k + 1, by omega, by go_num, by rw [HN2.out]; rfl, HBB.out, ⟨HB2.out.os, HB2.out.tape, HB2.out.output, HB2.out.size, HB2.out.block⟩⟩
            case measure => simp [intOf]; omega
      · obtain ⟨rfl, hks⟩ : k = len ∧ k = us.length := by have := HR.out.2.1; omega
        have hse : smK us k = (mgS us).2 := by rw [hks]; exact HF.out.2.1
        rw [hse]
        clear hse hks
        obtain ⟨y0, y1, y2, y3⟩ := ent_cells _ _ _ _ hb
        obtain ⟨s, hs⟩ : ∃ s, (mgS us).2 = s := ⟨_, rfl⟩
        rw [hs]
        cases s
        case false =>
          have e := HF.out.2.2.1 hs
          injection e with e0 e
          injection e with e1 e
          injection e with e2 e3
          subst e0 e1 e2 e3
          clear hs
          have CM := Lib.hid (fun W (m : Below wr.heap.size wr W) => ent_cells _ _ _ _ ((m.block _ (Array.getElem?_eq_some_iff.1 hb).1).trans hb))
          clear y0 y1 y2 y3 hb
          have nc := (Below.refl wr.heap.size wr).drew
          go_wp2_with fail
          go_region_held3 (fun W => W.cell? ⟨b, 0, none⟩ = some (.int .i64 (-1)) ∧ W.cell? ⟨b, 1, none⟩ = some (.int .i64 (-1)) ∧ W.cell? ⟨b, 2, none⟩ = some (.int .i64 0) ∧ W.cell? ⟨b, 3, none⟩ = some (.int .i64 0))
            (with_reducible exact CM.out _ nc)
            (first
              | (go_at_call 14; (with_reducible refine (eNone_any _).mono ?_); rintro e w2 ⟨rfl, n2⟩; have nc := nc.trans (n2.mono nc.size))
              | (go_at_call 7; (with_reducible refine (TW.out _).mono ?_); rintro e w4 ⟨rfl, m4⟩; have nc := nc.trans (m4.mono nc.size)))
          have LE := HB.out.trans (nc.mono HB.out.size)
          go_wp2
          go_ret
          exact ⟨rfl, LE⟩
        case true =>
          have hus : 0 < us.length := by
            rcases us with _ | ⟨u, r⟩
            · cases hs
            · simp
          obtain ⟨a0, off, rfl, ha⟩ := srow_addr HR.out.1 hus
          have ht0 : (0 : Int) ≤ (t : Int) := by omega
          have ht1 : (t : Int) ≤ (k : Int) := by omega
          have hkc := HR.out.2.2.2.1
          have htc : (t : Int) ≤ (cap : Int) := by omega
          have hkc' : (k : Int) ≤ (cap : Int) := by omega
          obtain ⟨A, hA⟩ : ∃ A, (if cap = t then some (⟨a0, off, none⟩ : Addr) else some ⟨a0, off + t * 4, none⟩) = A := ⟨_, rfl⟩
          have RT := fun W (m : Below wr.heap.size wr W) => srow_take ((HR.out.1.below (HB.out.trans (m.mono HB.out.size))).more (HB.out.trans (m.mono HB.out.size)).size) t
          have RD : ∀ W, Below wr.heap.size wr W → SRow entC 4 W.heap.size W A (us.drop t) := fun W m => by
            by_cases hct : cap = t
            · have e : us.drop t = [] := List.eq_nil_of_length_eq_zero (by have := HR.out.2.1; simp; omega)
              rw [e]
              exact SRow.nil _ _ _ _ _
            · rw [if_neg hct] at hA
              rw [← hA]
              exact srow_drop ((HR.out.1.below (HB.out.trans (m.mono HB.out.size))).more (HB.out.trans (m.mono HB.out.size)).size) t
          have hlT : (us.take t).length = t := by have := HR.out.2.1; simp; omega
          have hlD : (us.drop t).length = k - t := by have := HR.out.2.1; simp; omega
          have KHd := Lib.hid (fun W (m : Below wr.heap.size wr W) => eMerge_any (some ⟨a0, off, none⟩) t cap (us.take t) hlT (by omega) W (RT W m))
          have KRs := Lib.hid (fun W (m : Below wr.heap.size wr W) => eMerge_any A (k - t) (cap - t) (us.drop t) hlD (by omega) W (RD W m))
          have HRT := Lib.hid (And.intro RT (And.intro RD (And.intro hlT hlD)))
          clear RT RD hlT hlD
          obtain ⟨hd, hhd⟩ : ∃ hd, (mgS (us.take t)).1 = hd := ⟨_, rfl⟩
          obtain ⟨rs, hrs⟩ : ∃ rs, (mgS (us.drop t)).1 = rs := ⟨_, rfl⟩
          rw [hhd] at KHd
          rw [hrs] at KRs
          obtain ⟨h0, h1, h2, h3⟩ := hd
          obtain ⟨r0, r1, r2, r3⟩ := rs
          have HH := Lib.hid (And.intro hhd hrs)
          have HBM := Lib.hid hb
          simp only at KHd KRs
          clear hhd hrs y0 y1 y2 y3 hb
          go_upto_region 15 with (fail)
          go_cut [8, 9] (fun p q wx => ∃ bh br, p = .pointer (some ⟨bh, 0, none⟩) ∧ q = .pointer (some ⟨br, 0, none⟩) ∧ wx.heap[bh]? = some (.cells #[.int .i64 h0, .int .i64 h1, .int .i64 h2, .int .i64 h3] 23 (0, 0)) ∧ wx.heap[br]? = some (.cells #[.int .i64 r0, .int .i64 r1, .int .i64 r2, .int .i64 r3] 23 (0, 0)) ∧ Below wr.heap.size wr wx)
          case first =>
            refine wp_region_held_drew (S := fun _ => True) (by kernel_rfl) trivial (fun hHeld => ?_)
            refine wpAnyH_take (i := 0) (oi := { dst := some 82, op := Op.move (Operand.tmp 0), type := 24, pos := "law.go:45", after := #[], guard := none }) (v := ?_) rfl (by kernel_rfl) (by kernel_rfl) (by kernel_rfl) (fun _ _ _ h => h) (Or.inl ⟨by rfl, ?_⟩) (by assumption) ?_
            rotate_left
            · intro w hSw
              (try dsimp only at hSw)
              first | (go_simp; done) | (go_simp; with_reducible rfl)
            (try simp only [Act.put, List.setIfInBounds_toArray, List.set_cons_zero, List.set_cons_succ])
            refine wpAnyH_take (i := 1) (oi := { dst := some 83, op := Op.move (Operand.tmp 1), type := 3, pos := "law.go:45", after := #[], guard := none }) (v := ?_) rfl (by kernel_rfl) (by kernel_rfl) (by kernel_rfl) (fun _ _ _ h => h) (Or.inl ⟨by rfl, ?_⟩) (by assumption) ?_
            rotate_left
            · intro w hSw
              (try dsimp only at hSw)
              first | (go_simp; done) | (go_simp; with_reducible rfl)
            (try simp only [Act.put, List.setIfInBounds_toArray, List.set_cons_zero, List.set_cons_succ])
            refine wpAnyH_take (i := 2) (oi := { dst := some 84, op := Op.slice 24 (Operand.tmp 82) none (some (Operand.tmp 83)) none, type := 24, pos := "law.go:45", after := #[{ on := 0, ground := Ground.data }, { on := 1, ground := Ground.data }], guard := none }) (v := ?_) rfl (by kernel_rfl) (by kernel_rfl) (by kernel_rfl) (fun _ _ _ h => h) (Or.inl ⟨by rfl, ?_⟩) (by assumption) ?_
            rotate_left
            · intro w hSw
              (try dsimp only at hSw)
              first | (go_simp; done) | (go_simp; with_reducible rfl)
            (try simp only [Act.put, List.setIfInBounds_toArray, List.set_cons_zero, List.set_cons_succ])
            refine wpAnyH_take (i := 4) (oi := { dst := some 86, op := Op.move (Operand.tmp 0), type := 24, pos := "law.go:45", after := #[], guard := none }) (v := ?_) rfl (by kernel_rfl) (by kernel_rfl) (by kernel_rfl) (fun _ _ _ h => h) (Or.inl ⟨by rfl, ?_⟩) (by assumption) ?_
            rotate_left
            · intro w hSw
              (try dsimp only at hSw)
              first | (go_simp; done) | (go_simp; with_reducible rfl)
            (try simp only [Act.put, List.setIfInBounds_toArray, List.set_cons_zero, List.set_cons_succ])
            refine wpAnyH_take (i := 5) (oi := { dst := some 87, op := Op.move (Operand.tmp 1), type := 3, pos := "law.go:45", after := #[], guard := none }) (v := ?_) rfl (by kernel_rfl) (by kernel_rfl) (by kernel_rfl) (fun _ _ _ h => h) (Or.inl ⟨by rfl, ?_⟩) (by assumption) ?_
            rotate_left
            · intro w hSw
              (try dsimp only at hSw)
              first | (go_simp; done) | (go_simp; with_reducible rfl)
            (try simp only [Act.put, List.setIfInBounds_toArray, List.set_cons_zero, List.set_cons_succ])
            refine wpAnyH_take (i := 6) (oi := { dst := some 88, op := Op.slice 24 (Operand.tmp 86) (some (Operand.tmp 87)) none none, type := 24, pos := "law.go:45", after := #[{ on := 4, ground := Ground.data }, { on := 5, ground := Ground.data }], guard := none }) (v := ?_) rfl (by kernel_rfl) (by kernel_rfl) (by kernel_rfl) (fun _ _ _ h => h) (Or.inl ⟨by rfl, ?_⟩) (by assumption) ?_
            rotate_left
            · intro w hSw
              (try dsimp only at hSw)
              first | (go_simp; done) | (go_simp; with_reducible rfl)
            (try simp only [Act.put, List.setIfInBounds_toArray, List.set_cons_zero, List.set_cons_succ])
            (try rw [hA])
            refine' @shareT _ _ (fun HT3_7_8_9 => ?_) ?_
            rotate_left 1
            · skip
              refine' @shareT _ _ (fun HT3_8_9 => ?_) ?_
              rotate_left 1
              · skip
                refine' @shareT _ _ (fun HT3_7_9 => ?_) ?_
                rotate_left 1
                · skip
                  refine' @shareT _ _ (fun HT3_7_8 => ?_) ?_
                  rotate_left 1
                  · skip
                    refine' @shareT _ _ (fun HT8_9 => ?_) ?_
                    rotate_left 1
                    · skip
                      refine' @shareT _ _ (fun HT3_9 => ?_) ?_
                      rotate_left 1
                      · skip
                        refine' @shareT _ _ (fun HT3_8 => ?_) ?_
                        rotate_left 1
                        · skip
                          refine' @shareT _ _ (fun HT3_7 => ?_) ?_
                          rotate_left 1
                          · skip
                            refine' @shareT _ _ (fun HT9 => ?_) ?_
                            rotate_left 1
                            · skip
                              refine' @shareT _ _ (fun HT8 => ?_) ?_
                              rotate_left 1
                              · skip
                                refine' @shareT _ _ (fun HT3 => ?_) ?_
                                rotate_left 1
                                · skip
                                  have nc := (Below.refl wr.heap.size wr).drew
                                  generalize World.drew wr = W at *
                                  refine wpAnyH_ready (rs := [3, 8, 9]) (by kernel_rfl) (by simp) ?_
                                  refine AllReadyH.cons (o := { dst := some 85, op := Op.call { callee := Callee.value (Operand.func 12), args := #[Operand.tmp 84], argTypes := #[24] }, type := 23, pos := "law.go:45", after := #[{ on := 2, ground := Ground.data }], guard := none }) rfl (fun K hK => ?_) (AllReadyH.cons (o := { dst := some 8, op := Op.alloc 23, type := 0, pos := "law.go:45", after := #[], guard := none }) rfl (fun K hK => ?_) (AllReadyH.cons (o := { dst := some 9, op := Op.alloc 23, type := 0, pos := "law.go:45", after := #[], guard := none }) rfl (fun K hK => ?_) AllReadyH.nil))
                                  · go_simp
                                    refine (KHd.out _ nc).mono ?_
                                    rintro e W2 ⟨rfl, jx⟩
                                    replace nc := nc.trans (jx.mono nc.size)
                                    refine hK.out _ _ trivial (fun hHeld => ?_)
                                    clear hK K jx
                                    (try simp only [Act.put, List.setIfInBounds_toArray, List.set_cons_zero, List.set_cons_succ])
                                    generalize W2 = W at *
                                    clear hHeld
                                    revert nc
                                    revert W
                                    exact HT3.out
                                  · go_simp
                                    refine hK.out _ _ trivial (fun hHeld => ?_)
                                    clear hK K
                                    (try simp only [Act.put, List.setIfInBounds_toArray, List.set_cons_zero, List.set_cons_succ])
                                    have hh := heap_alloc_new W (.cells #[.int .i64 0, .int .i64 0, .int .i64 0, .int .i64 0] 23)
                                    have lh := nc.size
                                    replace nc := nc.alloc nc.size (.cells #[.int .i64 0, .int .i64 0, .int .i64 0, .int .i64 0] 23)
                                    generalize W.alloc (.cells #[.int .i64 0, .int .i64 0, .int .i64 0, .int .i64 0] 23) = W2 at *
                                    generalize W.heap.size = bh at *
                                    clear W
                                    generalize W2 = W at *
                                    clear hHeld
                                    revert lh
                                    revert hh
                                    revert nc
                                    revert W
                                    revert bh
                                    exact HT8.out
                                  · go_simp
                                    refine hK.out _ _ trivial (fun hHeld => ?_)
                                    clear hK K
                                    (try simp only [Act.put, List.setIfInBounds_toArray, List.set_cons_zero, List.set_cons_succ])
                                    have hr := heap_alloc_new W (.cells #[.int .i64 0, .int .i64 0, .int .i64 0, .int .i64 0] 23)
                                    have lr := nc.size
                                    replace nc := nc.alloc nc.size (.cells #[.int .i64 0, .int .i64 0, .int .i64 0, .int .i64 0] 23)
                                    generalize W.alloc (.cells #[.int .i64 0, .int .i64 0, .int .i64 0, .int .i64 0] 23) = W2 at *
                                    generalize W.heap.size = br at *
                                    clear W
                                    generalize W2 = W at *
                                    clear hHeld
                                    revert lr
                                    revert hr
                                    revert nc
                                    revert W
                                    revert br
                                    exact HT9.out
                                intro W nc
                                have hHeld : True := trivial
                                refine wpAnyH_ready (rs := [7, 8, 9]) (by kernel_rfl) (by simp) ?_
                                refine AllReadyH.cons (o := { dst := some 89, op := Op.call { callee := Callee.value (Operand.func 12), args := #[Operand.tmp 88], argTypes := #[24] }, type := 23, pos := "law.go:45", after := #[{ on := 6, ground := Ground.data }, { on := 3, ground := Ground.chain }], guard := none }) rfl (fun K hK => ?_) (AllReadyH.cons (o := { dst := some 8, op := Op.alloc 23, type := 0, pos := "law.go:45", after := #[], guard := none }) rfl (fun K hK => ?_) (AllReadyH.cons (o := { dst := some 9, op := Op.alloc 23, type := 0, pos := "law.go:45", after := #[], guard := none }) rfl (fun K hK => ?_) AllReadyH.nil))
                                · go_simp
                                  refine (KRs.out _ nc).mono ?_
                                  rintro e W2 ⟨rfl, jx⟩
                                  replace nc := nc.trans (jx.mono nc.size)
                                  refine hK.out _ _ trivial (fun hHeld => ?_)
                                  clear hK K jx
                                  (try simp only [Act.put, List.setIfInBounds_toArray, List.set_cons_zero, List.set_cons_succ])
                                  generalize W2 = W at *
                                  clear hHeld
                                  revert nc
                                  revert W
                                  exact HT3_7.out
                                · go_simp
                                  refine hK.out _ _ trivial (fun hHeld => ?_)
                                  clear hK K
                                  (try simp only [Act.put, List.setIfInBounds_toArray, List.set_cons_zero, List.set_cons_succ])
                                  have hh := heap_alloc_new W (.cells #[.int .i64 0, .int .i64 0, .int .i64 0, .int .i64 0] 23)
                                  have lh := nc.size
                                  replace nc := nc.alloc nc.size (.cells #[.int .i64 0, .int .i64 0, .int .i64 0, .int .i64 0] 23)
                                  generalize W.alloc (.cells #[.int .i64 0, .int .i64 0, .int .i64 0, .int .i64 0] 23) = W2 at *
                                  generalize W.heap.size = bh at *
                                  clear W
                                  generalize W2 = W at *
                                  clear hHeld
                                  revert lh
                                  revert hh
                                  revert nc
                                  revert W
                                  revert bh
                                  exact HT3_8.out
                                · go_simp
                                  refine hK.out _ _ trivial (fun hHeld => ?_)
                                  clear hK K
                                  (try simp only [Act.put, List.setIfInBounds_toArray, List.set_cons_zero, List.set_cons_succ])
                                  have hr := heap_alloc_new W (.cells #[.int .i64 0, .int .i64 0, .int .i64 0, .int .i64 0] 23)
                                  have lr := nc.size
                                  replace nc := nc.alloc nc.size (.cells #[.int .i64 0, .int .i64 0, .int .i64 0, .int .i64 0] 23)
                                  generalize W.alloc (.cells #[.int .i64 0, .int .i64 0, .int .i64 0, .int .i64 0] 23) = W2 at *
                                  generalize W.heap.size = br at *
                                  clear W
                                  generalize W2 = W at *
                                  clear hHeld
                                  revert lr
                                  revert hr
                                  revert nc
                                  revert W
                                  revert br
                                  exact HT3_9.out
                              intro bh W nc hh lh
                              have hHeld : True := trivial
                              refine wpAnyH_ready (rs := [3, 9]) (by kernel_rfl) (by simp) ?_
                              refine AllReadyH.cons (o := { dst := some 85, op := Op.call { callee := Callee.value (Operand.func 12), args := #[Operand.tmp 84], argTypes := #[24] }, type := 23, pos := "law.go:45", after := #[{ on := 2, ground := Ground.data }], guard := none }) rfl (fun K hK => ?_) (AllReadyH.cons (o := { dst := some 9, op := Op.alloc 23, type := 0, pos := "law.go:45", after := #[], guard := none }) rfl (fun K hK => ?_) AllReadyH.nil)
                              · go_simp
                                refine (KHd.out _ nc).mono ?_
                                rintro e W2 ⟨rfl, jx⟩
                                replace hh := (jx.block _ (Array.getElem?_eq_some_iff.1 hh).1).trans hh
                                replace nc := nc.trans (jx.mono nc.size)
                                refine hK.out _ _ trivial (fun hHeld => ?_)
                                clear hK K jx
                                (try simp only [Act.put, List.setIfInBounds_toArray, List.set_cons_zero, List.set_cons_succ])
                                generalize W2 = W at *
                                exact HT3_8.out bh W nc hh lh
                              · go_simp
                                refine hK.out _ _ trivial (fun hHeld => ?_)
                                clear hK K
                                (try simp only [Act.put, List.setIfInBounds_toArray, List.set_cons_zero, List.set_cons_succ])
                                have hr := heap_alloc_new W (.cells #[.int .i64 0, .int .i64 0, .int .i64 0, .int .i64 0] 23)
                                have lr := nc.size
                                have nhr : bh ≠ W.heap.size := Nat.ne_of_lt (Array.getElem?_eq_some_iff.1 hh).1
                                replace hh := (Below.heap_alloc W (.cells #[.int .i64 0, .int .i64 0, .int .i64 0, .int .i64 0] 23) _ (Array.getElem?_eq_some_iff.1 hh).1).trans hh
                                replace nc := nc.alloc nc.size (.cells #[.int .i64 0, .int .i64 0, .int .i64 0, .int .i64 0] 23)
                                generalize W.alloc (.cells #[.int .i64 0, .int .i64 0, .int .i64 0, .int .i64 0] 23) = W2 at *
                                generalize W.heap.size = br at *
                                clear W
                                generalize W2 = W at *
                                clear hHeld
                                revert nhr
                                revert lr
                                revert lh
                                revert hr
                                revert hh
                                revert nc
                                revert W
                                revert br
                                revert bh
                                exact HT8_9.out
                            intro br W nc hr lr
                            have hHeld : True := trivial
                            refine wpAnyH_ready (rs := [3, 8]) (by kernel_rfl) (by simp) ?_
                            refine AllReadyH.cons (o := { dst := some 85, op := Op.call { callee := Callee.value (Operand.func 12), args := #[Operand.tmp 84], argTypes := #[24] }, type := 23, pos := "law.go:45", after := #[{ on := 2, ground := Ground.data }], guard := none }) rfl (fun K hK => ?_) (AllReadyH.cons (o := { dst := some 8, op := Op.alloc 23, type := 0, pos := "law.go:45", after := #[], guard := none }) rfl (fun K hK => ?_) AllReadyH.nil)
                            · go_simp
                              refine (KHd.out _ nc).mono ?_
                              rintro e W2 ⟨rfl, jx⟩
                              replace hr := (jx.block _ (Array.getElem?_eq_some_iff.1 hr).1).trans hr
                              replace nc := nc.trans (jx.mono nc.size)
                              refine hK.out _ _ trivial (fun hHeld => ?_)
                              clear hK K jx
                              (try simp only [Act.put, List.setIfInBounds_toArray, List.set_cons_zero, List.set_cons_succ])
                              generalize W2 = W at *
                              exact HT3_9.out br W nc hr lr
                            · go_simp
                              refine hK.out _ _ trivial (fun hHeld => ?_)
                              clear hK K
                              (try simp only [Act.put, List.setIfInBounds_toArray, List.set_cons_zero, List.set_cons_succ])
                              have hh := heap_alloc_new W (.cells #[.int .i64 0, .int .i64 0, .int .i64 0, .int .i64 0] 23)
                              have lh := nc.size
                              have nhr : W.heap.size ≠ br := Nat.ne_of_gt (Array.getElem?_eq_some_iff.1 hr).1
                              replace hr := (Below.heap_alloc W (.cells #[.int .i64 0, .int .i64 0, .int .i64 0, .int .i64 0] 23) _ (Array.getElem?_eq_some_iff.1 hr).1).trans hr
                              replace nc := nc.alloc nc.size (.cells #[.int .i64 0, .int .i64 0, .int .i64 0, .int .i64 0] 23)
                              generalize W.alloc (.cells #[.int .i64 0, .int .i64 0, .int .i64 0, .int .i64 0] 23) = W2 at *
                              generalize W.heap.size = bh at *
                              clear W
                              generalize W2 = W at *
                              exact HT8_9.out bh br W nc hh hr lh lr nhr
                          intro W nc
                          have hHeld : True := trivial
                          refine wpAnyH_ready (rs := [8, 9]) (by kernel_rfl) (by simp) ?_
                          refine AllReadyH.cons (o := { dst := some 8, op := Op.alloc 23, type := 0, pos := "law.go:45", after := #[], guard := none }) rfl (fun K hK => ?_) (AllReadyH.cons (o := { dst := some 9, op := Op.alloc 23, type := 0, pos := "law.go:45", after := #[], guard := none }) rfl (fun K hK => ?_) AllReadyH.nil)
                          · go_simp
                            refine hK.out _ _ trivial (fun hHeld => ?_)
                            clear hK K
                            (try simp only [Act.put, List.setIfInBounds_toArray, List.set_cons_zero, List.set_cons_succ])
                            have hh := heap_alloc_new W (.cells #[.int .i64 0, .int .i64 0, .int .i64 0, .int .i64 0] 23)
                            have lh := nc.size
                            replace nc := nc.alloc nc.size (.cells #[.int .i64 0, .int .i64 0, .int .i64 0, .int .i64 0] 23)
                            generalize W.alloc (.cells #[.int .i64 0, .int .i64 0, .int .i64 0, .int .i64 0] 23) = W2 at *
                            generalize W.heap.size = bh at *
                            clear W
                            generalize W2 = W at *
                            clear hHeld
                            revert lh
                            revert hh
                            revert nc
                            revert W
                            revert bh
                            exact HT3_7_8.out
                          · go_simp
                            refine hK.out _ _ trivial (fun hHeld => ?_)
                            clear hK K
                            (try simp only [Act.put, List.setIfInBounds_toArray, List.set_cons_zero, List.set_cons_succ])
                            have hr := heap_alloc_new W (.cells #[.int .i64 0, .int .i64 0, .int .i64 0, .int .i64 0] 23)
                            have lr := nc.size
                            replace nc := nc.alloc nc.size (.cells #[.int .i64 0, .int .i64 0, .int .i64 0, .int .i64 0] 23)
                            generalize W.alloc (.cells #[.int .i64 0, .int .i64 0, .int .i64 0, .int .i64 0] 23) = W2 at *
                            generalize W.heap.size = br at *
                            clear W
                            generalize W2 = W at *
                            clear hHeld
                            revert lr
                            revert hr
                            revert nc
                            revert W
                            revert br
                            exact HT3_7_9.out
                        intro bh W nc hh lh
                        have hHeld : True := trivial
                        refine wpAnyH_ready (rs := [7, 9]) (by kernel_rfl) (by simp) ?_
                        refine AllReadyH.cons (o := { dst := some 89, op := Op.call { callee := Callee.value (Operand.func 12), args := #[Operand.tmp 88], argTypes := #[24] }, type := 23, pos := "law.go:45", after := #[{ on := 6, ground := Ground.data }, { on := 3, ground := Ground.chain }], guard := none }) rfl (fun K hK => ?_) (AllReadyH.cons (o := { dst := some 9, op := Op.alloc 23, type := 0, pos := "law.go:45", after := #[], guard := none }) rfl (fun K hK => ?_) AllReadyH.nil)
                        · go_simp
                          refine (KRs.out _ nc).mono ?_
                          rintro e W2 ⟨rfl, jx⟩
                          replace hh := (jx.block _ (Array.getElem?_eq_some_iff.1 hh).1).trans hh
                          replace nc := nc.trans (jx.mono nc.size)
                          refine hK.out _ _ trivial (fun hHeld => ?_)
                          clear hK K jx
                          (try simp only [Act.put, List.setIfInBounds_toArray, List.set_cons_zero, List.set_cons_succ])
                          generalize W2 = W at *
                          exact HT3_7_8.out bh W nc hh lh
                        · go_simp
                          refine hK.out _ _ trivial (fun hHeld => ?_)
                          clear hK K
                          (try simp only [Act.put, List.setIfInBounds_toArray, List.set_cons_zero, List.set_cons_succ])
                          have hr := heap_alloc_new W (.cells #[.int .i64 0, .int .i64 0, .int .i64 0, .int .i64 0] 23)
                          have lr := nc.size
                          have nhr : bh ≠ W.heap.size := Nat.ne_of_lt (Array.getElem?_eq_some_iff.1 hh).1
                          replace hh := (Below.heap_alloc W (.cells #[.int .i64 0, .int .i64 0, .int .i64 0, .int .i64 0] 23) _ (Array.getElem?_eq_some_iff.1 hh).1).trans hh
                          replace nc := nc.alloc nc.size (.cells #[.int .i64 0, .int .i64 0, .int .i64 0, .int .i64 0] 23)
                          generalize W.alloc (.cells #[.int .i64 0, .int .i64 0, .int .i64 0, .int .i64 0] 23) = W2 at *
                          generalize W.heap.size = br at *
                          clear W
                          generalize W2 = W at *
                          clear hHeld
                          revert nhr
                          revert lr
                          revert lh
                          revert hr
                          revert hh
                          revert nc
                          revert W
                          revert br
                          revert bh
                          exact HT3_8_9.out
                      intro br W nc hr lr
                      have hHeld : True := trivial
                      refine wpAnyH_ready (rs := [7, 8]) (by kernel_rfl) (by simp) ?_
                      refine AllReadyH.cons (o := { dst := some 89, op := Op.call { callee := Callee.value (Operand.func 12), args := #[Operand.tmp 88], argTypes := #[24] }, type := 23, pos := "law.go:45", after := #[{ on := 6, ground := Ground.data }, { on := 3, ground := Ground.chain }], guard := none }) rfl (fun K hK => ?_) (AllReadyH.cons (o := { dst := some 8, op := Op.alloc 23, type := 0, pos := "law.go:45", after := #[], guard := none }) rfl (fun K hK => ?_) AllReadyH.nil)
                      · go_simp
                        refine (KRs.out _ nc).mono ?_
                        rintro e W2 ⟨rfl, jx⟩
                        replace hr := (jx.block _ (Array.getElem?_eq_some_iff.1 hr).1).trans hr
                        replace nc := nc.trans (jx.mono nc.size)
                        refine hK.out _ _ trivial (fun hHeld => ?_)
                        clear hK K jx
                        (try simp only [Act.put, List.setIfInBounds_toArray, List.set_cons_zero, List.set_cons_succ])
                        generalize W2 = W at *
                        exact HT3_7_9.out br W nc hr lr
                      · go_simp
                        refine hK.out _ _ trivial (fun hHeld => ?_)
                        clear hK K
                        (try simp only [Act.put, List.setIfInBounds_toArray, List.set_cons_zero, List.set_cons_succ])
                        have hh := heap_alloc_new W (.cells #[.int .i64 0, .int .i64 0, .int .i64 0, .int .i64 0] 23)
                        have lh := nc.size
                        have nhr : W.heap.size ≠ br := Nat.ne_of_gt (Array.getElem?_eq_some_iff.1 hr).1
                        replace hr := (Below.heap_alloc W (.cells #[.int .i64 0, .int .i64 0, .int .i64 0, .int .i64 0] 23) _ (Array.getElem?_eq_some_iff.1 hr).1).trans hr
                        replace nc := nc.alloc nc.size (.cells #[.int .i64 0, .int .i64 0, .int .i64 0, .int .i64 0] 23)
                        generalize W.alloc (.cells #[.int .i64 0, .int .i64 0, .int .i64 0, .int .i64 0] 23) = W2 at *
                        generalize W.heap.size = bh at *
                        clear W
                        generalize W2 = W at *
                        exact HT3_8_9.out bh br W nc hh hr lh lr nhr
                    intro bh br W nc hh hr lh lr nhr
                    have hHeld : True := trivial
                    refine wpAnyH_ready (rs := [3]) (by kernel_rfl) (by simp) ?_
                    refine AllReadyH.cons (o := { dst := some 85, op := Op.call { callee := Callee.value (Operand.func 12), args := #[Operand.tmp 84], argTypes := #[24] }, type := 23, pos := "law.go:45", after := #[{ on := 2, ground := Ground.data }], guard := none }) rfl (fun K hK => ?_) AllReadyH.nil
                    · go_simp
                      refine (KHd.out _ nc).mono ?_
                      rintro e W2 ⟨rfl, jx⟩
                      replace hh := (jx.block _ (Array.getElem?_eq_some_iff.1 hh).1).trans hh
                      replace hr := (jx.block _ (Array.getElem?_eq_some_iff.1 hr).1).trans hr
                      replace nc := nc.trans (jx.mono nc.size)
                      refine hK.out _ _ trivial (fun hHeld => ?_)
                      clear hK K jx
                      (try simp only [Act.put, List.setIfInBounds_toArray, List.set_cons_zero, List.set_cons_succ])
                      generalize W2 = W at *
                      exact HT3_8_9.out bh br W nc hh hr lh lr nhr
                  intro bh W nc hh lh
                  have hHeld : True := trivial
                  refine wpAnyH_ready (rs := [9]) (by kernel_rfl) (by simp) ?_
                  refine AllReadyH.cons (o := { dst := some 9, op := Op.alloc 23, type := 0, pos := "law.go:45", after := #[], guard := none }) rfl (fun K hK => ?_) AllReadyH.nil
                  · go_simp
                    refine hK.out _ _ trivial (fun hHeld => ?_)
                    clear hK K
                    (try simp only [Act.put, List.setIfInBounds_toArray, List.set_cons_zero, List.set_cons_succ])
                    have hr := heap_alloc_new W (.cells #[.int .i64 0, .int .i64 0, .int .i64 0, .int .i64 0] 23)
                    have lr := nc.size
                    have nhr : bh ≠ W.heap.size := Nat.ne_of_lt (Array.getElem?_eq_some_iff.1 hh).1
                    replace hh := (Below.heap_alloc W (.cells #[.int .i64 0, .int .i64 0, .int .i64 0, .int .i64 0] 23) _ (Array.getElem?_eq_some_iff.1 hh).1).trans hh
                    replace nc := nc.alloc nc.size (.cells #[.int .i64 0, .int .i64 0, .int .i64 0, .int .i64 0] 23)
                    generalize W.alloc (.cells #[.int .i64 0, .int .i64 0, .int .i64 0, .int .i64 0] 23) = W2 at *
                    generalize W.heap.size = br at *
                    clear W
                    generalize W2 = W at *
                    clear hHeld
                    revert nhr
                    revert lr
                    revert lh
                    revert hr
                    revert hh
                    revert nc
                    revert W
                    revert br
                    revert bh
                    exact HT3_7_8_9.out
                intro br W nc hr lr
                have hHeld : True := trivial
                refine wpAnyH_ready (rs := [8]) (by kernel_rfl) (by simp) ?_
                refine AllReadyH.cons (o := { dst := some 8, op := Op.alloc 23, type := 0, pos := "law.go:45", after := #[], guard := none }) rfl (fun K hK => ?_) AllReadyH.nil
                · go_simp
                  refine hK.out _ _ trivial (fun hHeld => ?_)
                  clear hK K
                  (try simp only [Act.put, List.setIfInBounds_toArray, List.set_cons_zero, List.set_cons_succ])
                  have hh := heap_alloc_new W (.cells #[.int .i64 0, .int .i64 0, .int .i64 0, .int .i64 0] 23)
                  have lh := nc.size
                  have nhr : W.heap.size ≠ br := Nat.ne_of_gt (Array.getElem?_eq_some_iff.1 hr).1
                  replace hr := (Below.heap_alloc W (.cells #[.int .i64 0, .int .i64 0, .int .i64 0, .int .i64 0] 23) _ (Array.getElem?_eq_some_iff.1 hr).1).trans hr
                  replace nc := nc.alloc nc.size (.cells #[.int .i64 0, .int .i64 0, .int .i64 0, .int .i64 0] 23)
                  generalize W.alloc (.cells #[.int .i64 0, .int .i64 0, .int .i64 0, .int .i64 0] 23) = W2 at *
                  generalize W.heap.size = bh at *
                  clear W
                  generalize W2 = W at *
                  exact HT3_7_8_9.out bh br W nc hh hr lh lr nhr
              intro bh br W nc hh hr lh lr nhr
              have hHeld : True := trivial
              refine wpAnyH_ready (rs := [7]) (by kernel_rfl) (by simp) ?_
              refine AllReadyH.cons (o := { dst := some 89, op := Op.call { callee := Callee.value (Operand.func 12), args := #[Operand.tmp 88], argTypes := #[24] }, type := 23, pos := "law.go:45", after := #[{ on := 6, ground := Ground.data }, { on := 3, ground := Ground.chain }], guard := none }) rfl (fun K hK => ?_) AllReadyH.nil
              · go_simp
                refine (KRs.out _ nc).mono ?_
                rintro e W2 ⟨rfl, jx⟩
                replace hh := (jx.block _ (Array.getElem?_eq_some_iff.1 hh).1).trans hh
                replace hr := (jx.block _ (Array.getElem?_eq_some_iff.1 hr).1).trans hr
                replace nc := nc.trans (jx.mono nc.size)
                refine hK.out _ _ trivial (fun hHeld => ?_)
                clear hK K jx
                (try simp only [Act.put, List.setIfInBounds_toArray, List.set_cons_zero, List.set_cons_succ])
                generalize W2 = W at *
                exact HT3_7_8_9.out bh br W nc hh hr lh lr nhr
            intro bh br W nc hh hr lh lr nhr
            have hHeld : True := trivial
            refine wpAnyH_ready (rs := [10]) (by kernel_rfl) (by simp) ?_
            refine AllReadyH.cons (o := { dst := none, op := Op.store 23 (Operand.tmp 8) (Operand.tmp 85), type := 0, pos := "law.go:45", after := #[{ on := 8, ground := Ground.data }, { on := 3, ground := Ground.data }, { on := 7, ground := Ground.chain }, { on := 0, ground := Ground.phase }, { on := 1, ground := Ground.phase }, { on := 2, ground := Ground.phase }, { on := 3, ground := Ground.phase }, { on := 4, ground := Ground.textOnly Departure.lateStores }, { on := 5, ground := Ground.textOnly Departure.lateStores }, { on := 6, ground := Ground.textOnly Departure.lateStoresUnsure }, { on := 7, ground := Ground.textOnly Departure.lateStoresUnsure }, { on := 8, ground := Ground.phase }, { on := 9, ground := Ground.phase }], guard := none }) rfl (fun K hK => ?_) AllReadyH.nil
            obtain ⟨z0, z1, z2, z3⟩ := ent_cells _ _ _ _ hh
            have f0 := ent_frozen hh 0
            have f1 := ent_frozen hh 1
            have f2 := ent_frozen hh 2
            have f3 := ent_frozen hh 3
            go_simp
            refine hK.out _ _ trivial (fun hHeld => ?_)
            clear hK K
            (try simp only [Act.put, List.setIfInBounds_toArray, List.set_cons_zero, List.set_cons_succ])
            clear z0 z1 z2 z3 f0 f1 f2 f3
            have s1 : ((((W.setCell ⟨bh, 0, none⟩ (.int .i64 h0)).setCell ⟨bh, 1, none⟩ (.int .i64 h1)).setCell ⟨bh, 2, none⟩ (.int .i64 h2)).setCell ⟨bh, 3, none⟩ (.int .i64 h3)).heap[bh]? = some (.cells #[.int .i64 h0, .int .i64 h1, .int .i64 h2, .int .i64 h3] 23 (0, 0)) := full_setCells hh [.int .i64 h0, .int .i64 h1, .int .i64 h2, .int .i64 h3] rfl
            have s2 : ((((W.setCell ⟨bh, 0, none⟩ (.int .i64 h0)).setCell ⟨bh, 1, none⟩ (.int .i64 h1)).setCell ⟨bh, 2, none⟩ (.int .i64 h2)).setCell ⟨bh, 3, none⟩ (.int .i64 h3)).heap[br]? = some (.cells #[.int .i64 0, .int .i64 0, .int .i64 0, .int .i64 0] 23 (0, 0)) := ((((Below.heap_setCell _ _ _ br (by simpa using nhr.symm)).trans (Below.heap_setCell _ _ _ br (by simpa using nhr.symm))).trans (Below.heap_setCell _ _ _ br (by simpa using nhr.symm))).trans (Below.heap_setCell _ _ _ br (by simpa using nhr.symm))).trans hr
            have s3 : Below wr.heap.size wr ((((W.setCell ⟨bh, 0, none⟩ (.int .i64 h0)).setCell ⟨bh, 1, none⟩ (.int .i64 h1)).setCell ⟨bh, 2, none⟩ (.int .i64 h2)).setCell ⟨bh, 3, none⟩ (.int .i64 h3)) := below_setCells bh (by omega) [.int .i64 h0, .int .i64 h1, .int .i64 h2, .int .i64 h3] 0 wr W nc
            clear hh hr nc
            generalize (((W.setCell ⟨bh, 0, none⟩ (.int .i64 h0)).setCell ⟨bh, 1, none⟩ (.int .i64 h1)).setCell ⟨bh, 2, none⟩ (.int .i64 h2)).setCell ⟨bh, 3, none⟩ (.int .i64 h3) = W2 at *
            clear W
            generalize W2 = W at *
            have hh := s1
            have hr := s2
            have nc := s3
            clear s1 s2 s3
            refine wpAnyH_ready (rs := [11]) (by kernel_rfl) (by simp) ?_
            refine AllReadyH.cons (o := { dst := none, op := Op.store 23 (Operand.tmp 9) (Operand.tmp 89), type := 0, pos := "law.go:45", after := #[{ on := 9, ground := Ground.data }, { on := 7, ground := Ground.data }, { on := 10, ground := Ground.chain }, { on := 0, ground := Ground.phase }, { on := 1, ground := Ground.phase }, { on := 2, ground := Ground.phase }, { on := 3, ground := Ground.phase }, { on := 4, ground := Ground.phase }, { on := 5, ground := Ground.phase }, { on := 6, ground := Ground.phase }, { on := 7, ground := Ground.phase }, { on := 8, ground := Ground.phase }, { on := 9, ground := Ground.phase }, { on := 10, ground := Ground.phase }], guard := none }) rfl (fun K hK => ?_) AllReadyH.nil
            obtain ⟨z0, z1, z2, z3⟩ := ent_cells _ _ _ _ hr
            have f0 := ent_frozen hr 0
            have f1 := ent_frozen hr 1
            have f2 := ent_frozen hr 2
            have f3 := ent_frozen hr 3
            go_simp
            refine hK.out _ _ trivial (fun hHeld => ?_)
            clear hK K
            (try simp only [Act.put, List.setIfInBounds_toArray, List.set_cons_zero, List.set_cons_succ])
            clear z0 z1 z2 z3 f0 f1 f2 f3
            have s1 : ((((W.setCell ⟨br, 0, none⟩ (.int .i64 r0)).setCell ⟨br, 1, none⟩ (.int .i64 r1)).setCell ⟨br, 2, none⟩ (.int .i64 r2)).setCell ⟨br, 3, none⟩ (.int .i64 r3)).heap[br]? = some (.cells #[.int .i64 r0, .int .i64 r1, .int .i64 r2, .int .i64 r3] 23 (0, 0)) := full_setCells hr [.int .i64 r0, .int .i64 r1, .int .i64 r2, .int .i64 r3] rfl
            have s2 : ((((W.setCell ⟨br, 0, none⟩ (.int .i64 r0)).setCell ⟨br, 1, none⟩ (.int .i64 r1)).setCell ⟨br, 2, none⟩ (.int .i64 r2)).setCell ⟨br, 3, none⟩ (.int .i64 r3)).heap[bh]? = some (.cells #[.int .i64 h0, .int .i64 h1, .int .i64 h2, .int .i64 h3] 23 (0, 0)) := ((((Below.heap_setCell _ _ _ bh (by simpa using nhr)).trans (Below.heap_setCell _ _ _ bh (by simpa using nhr))).trans (Below.heap_setCell _ _ _ bh (by simpa using nhr))).trans (Below.heap_setCell _ _ _ bh (by simpa using nhr))).trans hh
            have s3 : Below wr.heap.size wr ((((W.setCell ⟨br, 0, none⟩ (.int .i64 r0)).setCell ⟨br, 1, none⟩ (.int .i64 r1)).setCell ⟨br, 2, none⟩ (.int .i64 r2)).setCell ⟨br, 3, none⟩ (.int .i64 r3)) := below_setCells br (by omega) [.int .i64 r0, .int .i64 r1, .int .i64 r2, .int .i64 r3] 0 wr W nc
            clear hh hr nc
            generalize (((W.setCell ⟨br, 0, none⟩ (.int .i64 r0)).setCell ⟨br, 1, none⟩ (.int .i64 r1)).setCell ⟨br, 2, none⟩ (.int .i64 r2)).setCell ⟨br, 3, none⟩ (.int .i64 r3) = W2 at *
            refine wpAnyH_done (by kernel_rfl) ?_ _
            go_wp2_with fail
            go_meet
            exact ⟨bh, br, rfl, rfl, s2, s1, s3⟩
          case rest =>
            obtain ⟨bh, br, rfl, rfl, hh, hr, nc⟩ := hcut
            have hbM := (nc.block _ (Array.getElem?_eq_some_iff.1 HBM.out).1).trans HBM.out
            have LC := HB.out.trans (nc.mono HB.out.size)
            obtain ⟨RT, RD, hlT, hlD⟩ := HRT.out
            have KS := Lib.hid (some1_any (some ⟨a0, off, none⟩) t cap (us.take t) hlT (by omega) _ (RT _ nc))
            obtain ⟨q, hq⟩ : ∃ q, (us.take t).any rgE = q := ⟨_, rfl⟩
            rw [hq] at KS
            go_wp2_with fail
            refine KS.out.mono ?_
            rintro e w3 ⟨rfl, j3⟩
            have hbM3 := (j3.block _ (Array.getElem?_eq_some_iff.1 hbM).1).trans hbM
            have hh3 := (j3.block _ (Array.getElem?_eq_some_iff.1 hh).1).trans hh
            have hr3 := (j3.block _ (Array.getElem?_eq_some_iff.1 hr).1).trans hr
            have nc3 := nc.trans (j3.mono nc.size)
            have HL3 := Lib.hid (LC.trans (j3.mono LC.size))
            clear hbM hh hr nc LC j3 KS
            cases q
            case false =>
              have e := (HH.out.2.symm.trans (HF.out.2.2.2.2.1 hq))
              injection e with e0 e
              injection e with e1 e
              injection e with e2 e3
              subst e0 e1 e2 e3
              obtain ⟨x0, x1, x2, x3⟩ := ent_cells _ _ _ _ hbM3
              obtain ⟨z0, z1, z2, z3⟩ := ent_cells _ _ _ _ hr3
              go_wp2_with (go_at_call 7; (with_reducible refine (TW.out _).mono ?_); rintro e w4 ⟨rfl, m4⟩)
              go_ret
              exact ⟨rfl, HL3.out.trans (m4.mono HL3.out.size)⟩
            case true =>
              obtain ⟨i0, hi, hz0, hz1, hz2⟩ := info_parts Try.infoEnt
              have hrM : rgE (m0, m1, m2, m3) = true := HF.out.2.2.2.1 hs
              have hF5 : (mgS ([(h0, h1, h2, h3)] ++ us.drop t)).1 = (m0, m1, m2, m3) := by
                have h := HF.out.2.2.2.2.2.1 hq
                rwa [HH.out.1] at h
              have KMg := Lib.hid (fun W (g c : Nat) (r : SRow entC 4 W.heap.size W (some ⟨g, 0, none⟩) ([(h0, h1, h2, h3)] ++ us.drop t)) => show Calls Try.prog 12 #[.slice (some ⟨g, 0, none⟩) (1 + (k - t)) c] W fun e w' => e = .returned (.agg #[.int .i64 m0, .int .i64 m1, .int .i64 m2, .int .i64 m3]) ∧ Below W.heap.size W w' from by
                have h := eMerge_any (some ⟨g, 0, none⟩) (1 + (k - t)) c _ (by rw [List.length_append, hlD]; rfl) (by omega) W r
                rwa [hF5] at h)
              have KTw := Lib.hid (fun W => mergeTwo hrM W)
              have heq : ∀ W' : World, (Go.binOp .eql 23 (.agg #[.int .i64 m0, .int .i64 m1, .int .i64 m2, .int .i64 m3]) (.agg #[.int .i64 m0, .int .i64 m1, .int .i64 m2, .int .i64 m3])).run Try.prog W' = .ok (.bool true) W' := fun W' => eqE_same m0 m1 m2 m3 ▸ run_eqE m0 m1 m2 m3 m0 m1 m2 m3 W'
              obtain ⟨ad, hAd⟩ : ∃ ad, A = some ad := by
                by_cases hct : cap = t
                · rw [if_pos hct] at hA
                  exact ⟨_, hA.symm⟩
                · rw [if_neg hct] at hA
                  exact ⟨_, hA.symm⟩
              subst hAd
              have CS := Lib.hid (fun W (m : Below w3.heap.size w3 W) => show W.cell? ⟨bh, 0, none⟩ = some (.int .i64 h0) ∧ W.cell? ⟨bh, 1, none⟩ = some (.int .i64 h1) ∧ W.cell? ⟨bh, 2, none⟩ = some (.int .i64 h2) ∧ W.cell? ⟨bh, 3, none⟩ = some (.int .i64 h3) ∧ W.cell? ⟨b, 0, none⟩ = some (.int .i64 m0) ∧ W.cell? ⟨b, 1, none⟩ = some (.int .i64 m1) ∧ W.cell? ⟨b, 2, none⟩ = some (.int .i64 m2) ∧ W.cell? ⟨b, 3, none⟩ = some (.int .i64 m3) from by
                obtain ⟨x0, x1, x2, x3⟩ := ent_cells _ _ _ _ ((m.block _ (Array.getElem?_eq_some_iff.1 hh3).1).trans hh3)
                obtain ⟨y0, y1, y2, y3⟩ := ent_cells _ _ _ _ ((m.block _ (Array.getElem?_eq_some_iff.1 hbM3).1).trans hbM3)
                exact ⟨x0, x1, x2, x3, y0, y1, y2, y3⟩)
              have O0 := Lib.hid ((own_one w3 w3.heap.size (Nat.le_refl _) 23 (h0, h1, h2, h3)).drew)
              have n0 := ((Below.refl w3.heap.size w3).alloc (Nat.le_refl _) (.cells #[.int .i64 h0, .int .i64 h1, .int .i64 h2, .int .i64 h3] 23)).drew
              have nc := (Below.refl w3.heap.size w3).drew
              have R0 := Lib.hid (RD _ (nc3.trans (n0.mono nc3.size)))
              have HlD := Lib.hid hlD
              clear hh3 hr3 hbM3 RT RD hlT hlD HRT hF5 hrM hq hs HF HH HR HBM KHd KRs
              go_wp2_with fail
              go_region_held3 (fun W => W.cell? ⟨bh, 0, none⟩ = some (.int .i64 h0) ∧ W.cell? ⟨bh, 1, none⟩ = some (.int .i64 h1) ∧ W.cell? ⟨bh, 2, none⟩ = some (.int .i64 h2) ∧ W.cell? ⟨bh, 3, none⟩ = some (.int .i64 h3) ∧ W.cell? ⟨b, 0, none⟩ = some (.int .i64 m0) ∧ W.cell? ⟨b, 1, none⟩ = some (.int .i64 m1) ∧ W.cell? ⟨b, 2, none⟩ = some (.int .i64 m2) ∧ W.cell? ⟨b, 3, none⟩ = some (.int .i64 m3))
                (first | with_reducible exact CS.out _ nc | with_reducible exact CS.out _ (nc.alloc nc.size _) | with_reducible exact CS.out _ n0)
                (first
                  | (refine step_append_srow _ (by rfl) _ _ _ (by rfl) w3.heap.size 23 i0 _ 32 Try.underlying24 hi hz0 hz1 hz2 rfl (.slice (some ⟨w3.heap.size, 0, none⟩) 1 1) 1 [(h0, h1, h2, h3)] (by rfl) O0.out _ ad (k - t) _ (us.drop t) (by rfl) HlD.out R0.out (by unfold maxLen; omega) (by omega) (by simp) ?_; intro v5 w5 O5 hg5; have nc := n0.grown hg5 n0.size (fun e he => by cases he; exact Nat.le_refl _); obtain ⟨g5, c5, rfl, _⟩ := ownS_form O5 (by omega); have R5 := SRow.of_own entC_len (by decide) O5)
                  | (go_at_call 12; (with_reducible refine (KMg.out _ _ _ R5).mono ?_); rintro e wx ⟨rfl, jx⟩; have nc := nc.trans (jx.mono nc.size))
                  | (go_at_call 12; (with_reducible refine (KTw.out _).mono ?_); rintro e wx ⟨rfl, jx⟩; have nc := nc.trans (jx.mono nc.size))
                  | (go_at_call 7; (with_reducible refine (TW.out _).mono ?_); rintro e wx ⟨rfl, jx⟩; have nc := nc.trans (jx.mono nc.size)))
              have LE := HL3.out.trans (nc.mono HL3.out.size)
              go_wp2
              go_ret
              exact ⟨rfl, LE⟩
end Go.Proofs.Ytpeaakcapfjncaa
